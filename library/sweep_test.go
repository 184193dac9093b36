package library_test

import (
	"strconv"
	"strings"
	"testing"

	"scanfail/library"
)

// wantModel: the run ends by itself, and tells what the model says.
func wantModel(t *testing.T, name string, in ...string) {
	t.Helper()
	if !ask(t, name, in...).tellsAsModel(models[name]) {
		t.Errorf("%s, input %s: the limit ended the run", name, brief(in))
	}
}

// from are the numbers from one to another one.
func from(first, last int) []string {
	var out []string
	for n := first; n <= last; n++ {
		out = append(out, strconv.Itoa(n))
	}
	return out
}

// The programs that look at the first line alone, with each number from one to another one.
func TestQ2FirstNumbers(t *testing.T) {
	for _, c := range []struct {
		name        string
		first, last int
	}{{"fibonacci", -3, 100}, {"primes", -3, 300}, {"collatz", -3, 300}, {"divisors", -3, 300}, {"hanoi", -3, 12}, {"hanoi", 100, 130}, {"pascal", -3, 67}} {
		t.Run(c.name, func(t *testing.T) {
			t.Parallel()
			for _, n := range from(c.first, c.last) {
				wantModel(t, c.name, n)
				if t.Failed() {
					return
				}
			}
		})
	}
}

// The programs that tell something of each number.
func TestQ2EachNumber(t *testing.T) {
	wantModel(t, "binary", from(-300, 300)...)
	wantModel(t, "factorial", from(-10, 120)...)
	wantModel(t, "digits", from(-100, 700)...)
	wantModel(t, "sum", from(-300, 500)...)
	wantModel(t, "range", from(-300, 500)...)
}

// All numbers that have Roman numerals.
func TestQ2RomanAll(t *testing.T) {
	for n := 1; n < 4000; n += 250 {
		in := from(n, min(n+249, 3999))
		var want []string
		for i := range in {
			want = append(want, romanByGreatest(n+i))
		}
		ask(t, "roman", in...).tells(want...)
	}
}

func TestQ2EuclidPairs(t *testing.T) {
	for _, a := range from(-15, 15) {
		for _, b := range from(-15, 15) {
			wantModel(t, "euclid", a, b)
		}
	}
}

func TestQ2HeadPairs(t *testing.T) {
	for n := range 8 {
		for _, first := range from(-2, 9) {
			wantModel(t, "head", append([]string{first}, many(n)...)...)
		}
	}
}

// texts are all texts of these signs that are no longer than that.
func texts(signs string, most int) []string {
	out, last := []string{""}, []string{""}
	for range most {
		var next []string
		for _, s := range last {
			for _, sign := range strings.Split(signs, "") {
				next = append(next, s+sign)
			}
		}
		out, last = append(out, next...), next
	}
	return out
}

// The programs that look at each line alone, with all short lines of some signs.
func TestQ2ShortLines(t *testing.T) {
	for _, c := range []struct {
		name, signs string
		most        int
	}{{"brackets", "()a", 7}, {"words", "a b", 6}, {"squeeze", " a", 8}, {"fields", ",a ", 6}, {"mirror", "ab", 8}, {"mirror", "a1 ", 5}, {"vowels", "aUx", 6}, {"digits", "09x", 5}, {"reverse", "abc", 5}, {"caesar", "AXz", 5}, {"upper", "aZ1", 5}} {
		l := texts(c.signs, c.most)
		for len(l) > 0 {
			n := min(len(l), 500)
			wantModel(t, c.name, l[:n]...)
			l = l[n:]
		}
	}
}

// orders are all orders of lines.
func orders(l []string) [][]string {
	if len(l) == 0 {
		return [][]string{nil}
	}
	var out [][]string
	for i, s := range l {
		rest := append(append([]string{}, l[:i]...), l[i+1:]...)
		for _, o := range orders(rest) {
			out = append(out, append([]string{s}, o...))
		}
	}
	return out
}

// The programs that hold lines against each other, with the same ones in all orders.
func TestQ2Orders(t *testing.T) {
	for _, in := range orders([]string{"", "1", "01", "10", "1", "a"}) {
		for _, name := range []string{"sort", "longest", "unique", "range", "sum", "number", "cat"} {
			wantModel(t, name, in...)
		}
		if t.Failed() {
			return
		}
	}
}

// signs are those of which a program's mixed lines are made.
func signs(name string) string {
	switch name {
	case "roman":
		return "0123456789x-"
	case "hanoi":
		return "01 -x" // of many more than ten discs a run takes long
	case "binary", "collatz", "divisors", "euclid", "factorial", "fibonacci", "head", "pascal", "primes", "range", "sum":
		return "0123 -x"
	case "brackets":
		return "()()a b"
	}
	return "aAzZ  ,,09'()eX\xff\x00"
}

// All programs, with mixed lines.
func TestQ2Mixed(t *testing.T) {
	for at, name := range library.Names() {
		t.Run(name, func(t *testing.T) {
			t.Parallel()
			d := dice(401 + at)
			ended := 0
			for range 300 {
				in := d.lines(signs(name), 3, 12)
				if isSaid(name, in) && ask(t, name, in...).tellsAsModel(models[name]) {
					ended++
				}
				if t.Failed() {
					return
				}
			}
			if ended < 200 {
				t.Errorf("only %d runs ended by themselves", ended)
			}
		})
	}
}
