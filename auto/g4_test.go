package auto_test

import (
	"fmt"
	"math"
	"strings"
	"testing"

	"scanfail/api"
	"scanfail/auto"
)

func wantBoth(t *testing.T, a, b, want api.Auto) {
	t.Helper()
	got, err := auto.Both(a, b)
	wantAuto(t, "Both of "+tellAuto(a)+" and "+tellAuto(b), got, err, want)
	got, err = auto.Both(b, a)
	wantAuto(t, "Both of "+tellAuto(b)+" and "+tellAuto(a), got, err, want)
}

func wantEither(t *testing.T, a, b, want api.Auto) {
	t.Helper()
	got, err := auto.Either(a, b)
	wantAuto(t, "Either of "+tellAuto(a)+" and "+tellAuto(b), got, err, want)
	got, err = auto.Either(b, a)
	wantAuto(t, "Either of "+tellAuto(b)+" and "+tellAuto(a), got, err, want)
}

func TestG4BothEither(t *testing.T) {
	for _, c := range []struct{ a, b, both, either string }{
		{"'a'", "'a'", "'a'", "'a'"},
		{"'a'", "'b'", "FAIL", "ANY('ab')"},
		{"'a'", "''", "FAIL", "'a' | ''"},
		{"'a'", "ARB", "'a'", "ARB"},
		{"'a'", "FAIL", "FAIL", "'a'"},
		{"FAIL", "FAIL", "FAIL", "FAIL"},
		{"ARB", "ARB", "ARB", "ARB"},
		{"ARB", "FAIL", "FAIL", "ARB"},
		{"LEN(1)", "NOTANY('a')", "NOTANY('a')", "LEN(1)"},
		{"ANY('ab')", "ANY('bc')", "'b'", "ANY('abc')"},
		{"ANY('a')", "NOTANY('a')", "FAIL", "LEN(1)"},
		{"ARB 'a'", "'a' ARB", "'a' | 'a' ARB 'a'", "ARB 'a' | 'a' ARB"},
		{"ARBNO(LEN(2))", "ARBNO(LEN(3))", "ARBNO(LEN(6))", "ARBNO(LEN(2)) | ARBNO(LEN(3))"},
		{"ARBNO('a')", "ARBNO('b')", "''", "ARBNO('a') | ARBNO('b')"},
		{"'ab' | 'cd'", "LEN(1) 'b'", "'ab'", "LEN(1) 'b' | 'cd'"},
		{"ARB 'ab' ARB", "ARBNO('ab')", "'ab' ARBNO('ab')", "'' | ARB 'ab' ARB"},
		{"ARB '\xff' ARB", "ARBNO(ANY('\x80\xff'))", "ARBNO('\x80') '\xff' ARBNO(ANY('\x80\xff'))", "ARB '\xff' ARB | ARBNO('\x80')"},
	} {
		wantBoth(t, made(c.a), made(c.b), made(c.both))
		wantEither(t, made(c.a), made(c.b), made(c.either))
	}
}

// What is handed in need not be least, and classes may be numbered as one likes.
func TestG4NotLeast(t *testing.T) {
	a := automaton([]string{"b", "^ab", "a"}, "0101000", []int{1, 2, 3}, []int{4, 4, 4}, []int{5, 2, 2}, []int{2, 2, 2}, []int{2, 2, 5}, []int{5, 4, 4}, []int{6, 6, 6}) // ANY('ab')
	b := automaton([]string{"c", "b", "^bc", ""}, "0110", []int{1, 2, 3, 0}, []int{3, 3, 3, 2}, []int{3, 3, 3, 1}, []int{3, 3, 3, 3})                                    // ANY('bc')
	wantBoth(t, a, b, made("'b'"))
	wantEither(t, a, b, made("ANY('abc')"))
	wantBoth(t, a, a, made("ANY('ab')"))
	wantEither(t, b, b, made("ANY('bc')"))
	got, err := auto.Not(a)
	wantAuto(t, "Not of "+tellAuto(a), got, err, not(copyAuto(made("ANY('ab')"))))
	got, err = auto.Not(got)
	wantAuto(t, "Not of Not of "+tellAuto(a), got, err, made("ANY('ab')"))
}

func TestG4Not(t *testing.T) {
	for _, c := range [][2]string{
		{"ARB", "FAIL"}, {"FAIL", "ARB"}, {"''", "LEN(1) ARB"}, {"'a'", "'' | NOTANY('a') | LEN(2) ARB"}, {"ARBNO(LEN(2))", "ARBNO(LEN(2)) LEN(1)"}, {"ARB 'a'", "'' | ARB NOTANY('a')"}, {"ARBNO('a')", "ARB NOTANY('a') ARB"}, {"'a' ARB", "'' | NOTANY('a') ARB"},
	} {
		for _, c := range [][2]string{c, {c[1], c[0]}} {
			got, err := auto.Not(made(c[0]))
			wantAuto(t, "Not of "+c[0], got, err, made(c[1]))
			got, err = auto.Not(got)
			wantAuto(t, "Not of Not of "+c[0], got, err, made(c[0]))
		}
	}
	great := ring(api.MaxStates, 7)
	got, err := auto.Not(great)
	wantAuto(t, "Not of one with MaxStates states", got, err, not(copyAuto(great)))
}

// chain has n states, one behind the other, and accepts at the last one, from which nobody comes away.
func chain(n int) api.Auto {
	a := ring(n, n-1)
	a.Next[n-1][0] = n - 1
	return a
}

func TestG4Products(t *testing.T) {
	for _, n := range [][2]int{{1, api.MaxStates}, {2, 4096}, {64, 128}, {3, 2730}, {90, 91}, {8191, 1}, {16, 512}} {
		a, b := chain(n[0]), chain(n[1])
		wantBoth(t, a, b, chain(max(n[0], n[1])))
		wantEither(t, a, b, chain(min(n[0], n[1])))
	}
	for _, n := range [][2]int{{3, 2731}, {2731, 3}, {2, 4097}, {4097, 2}, {api.MaxStates, 2}, {2, api.MaxStates}, {91, 91}, {65, 128}, {api.MaxStates, api.MaxStates}} {
		a, err := auto.Both(chain(n[0]), chain(n[1]))
		wantNoAuto(t, fmt.Sprintf("Both of %d and %d states", n[0], n[1]), a, err, api.ErrMuch)
		a, err = auto.Either(chain(n[0]), chain(n[1]))
		wantNoAuto(t, fmt.Sprintf("Either of %d and %d states", n[0], n[1]), a, err, api.ErrMuch)
	}
	// How many states they have counts, not how many they need, and not how many come of them.
	idle := api.Auto{Next: make([][]int, 91), Ends: make([]bool, 91)}
	for s := range idle.Next {
		idle.Next[s] = []int{0}
	}
	a, err := auto.Both(idle, idle)
	wantNoAuto(t, "Both of states that nobody comes to", a, err, api.ErrMuch)
	a, err = auto.Either(idle, idle)
	wantNoAuto(t, "Either of states that nobody comes to", a, err, api.ErrMuch)
	idle.Next, idle.Ends = idle.Next[:90], idle.Ends[:90]
	wantBoth(t, idle, ring(91, 3), nothing)
	wantEither(t, idle, ring(91, 3), ring(91, 3))
	wantBoth(t, ring(90, 0), ring(91, 0), ring(8190, 0))
	wantBoth(t, ring(90, 89), ring(91, 90), ring(8190, 8189))
	wantBoth(t, ring(64, 1), ring(128, 65), ring(128, 65))
	wantBoth(t, ring(64, 1), ring(128, 64), nothing)
	wantEither(t, ring(2, 0), ring(4096, 0), ring(2, 0))
}

func TestG4Accepts(t *testing.T) {
	for _, c := range []struct {
		pattern string
		yes, no []string
	}{
		{"FAIL", nil, []string{"", "a", "\x00"}},
		{"ARB", []string{"", "a", "\x00\xff", over}, nil},
		{"''", []string{""}, []string{"a", "\x00"}},
		{"'a'", []string{"a"}, []string{"", "b", "A", "aa", "ba", "ab", "\x00"}},
		{"ANY('\x80\xff')", []string{"\x80", "\xff"}, []string{"", "\x7f", "\x81", "\xff\xff"}},
		{"LEN(2)", []string{"ab", "\xff\x00"}, []string{"", "a", "abc"}},
		{"ARBNO('ab')", []string{"", "ab", "abab", strings.Repeat("ab", 40000)}, []string{"a", "b", "ba", "aba", "abb", strings.Repeat("ab", 40000) + "a"}},
		{"ARBNO('a' | 'b') 'abb'", []string{"abb", "aabb", "babb", "abbabb"}, []string{"", "ab", "abba", "cabb", "abbb"}},
		{"ARBNO('' | 'a' ARBNO('b'))", []string{"", "a", "abbb", "aabaabb"}, []string{"b", "ba", "ac", "abc"}},
		{"('a' | 'ab') ('c' | 'bcd')", []string{"ac", "abc", "abcd", "abbcd"}, []string{"", "a", "ab", "bc", "acd", "abbc"}},
	} {
		a := made(c.pattern)
		b, err := auto.Not(a)
		if err != api.OK {
			t.Errorf("Not of %s: error %d", c.pattern, err)
			continue
		}
		for _, s := range c.yes {
			wantAccepts(t, a, s, true)
			wantAccepts(t, b, s, false)
		}
		for _, s := range c.no {
			wantAccepts(t, a, s, false)
			wantAccepts(t, b, s, true)
		}
	}
}

func TestG4Shortest(t *testing.T) {
	wantNoShortest(t, nothing)
	wantNoShortest(t, made("'a' FAIL"))
	wantNoShortest(t, automaton(one, "011", []int{0}, []int{0}, []int{1})) // it ends where nobody comes to
	wantNoShortest(t, automaton(one, "01", []int{0, 1}, []int{1, 1}))      // or comes to by a class that no byte has
	for _, c := range [][2]string{
		{"''", ""}, {"ARB", ""}, {"ARBNO('a')", ""}, {"'' | 'a'", ""},
		{"'a'", "a"}, {"'abc'", "abc"}, {"LEN(1)", "\x00"}, {"LEN(3)", "\x00\x00\x00"}, {"NOTANY('a')", "\x00"},
		{"ANY('ba')", "a"}, {"'b' | 'a'", "a"}, {"'aa' | 'b'", "b"}, {"'ba' | 'ab'", "ab"}, {"'ba' | 'ac' | 'ab'", "ab"}, {"'ab' | 'b\x00'", "ab"},
		{"'\xff' | '\x80'", "\x80"}, {"'\xff' | '\x7f\x00'", "\xff"}, {"ANY('\xff\xfe')", "\xfe"}, {"'\x80' | 'z'", "z"}, {"'\xff\x00' | '\xfe\xff'", "\xfe\xff"},
		{"'z' LEN(2) | 'a' 'zz' | 'a' 'zy'", "azy"}, {"ARB 'x' ARB 'y'", "xy"}, {"LEN(1) ARB 'b'", "\x00b"}, {"('b' | 'ca') ('aa' | 'd')", "bd"}, {"('b' | 'ca') 'x' | 'bac' | 'z' LEN(2) 'x'", "bx"},
	} {
		wantShortest(t, made(c[0]), c[1])
	}
	var most []byte
	for b := range 255 {
		most = append(most, byte(b))
	}
	a, err := auto.Make(cat(text(api.PatNotAny, string(most)), text(api.PatNotAny, string(most[1:]))))
	if err != api.OK {
		t.Fatalf("Make: error %d", err)
	}
	wantShortest(t, a, "\xff\x00")
	// The first byte decides, whatever comes behind it; classes' numbers do not.
	wantShortest(t, automaton([]string{"b", "a", "^ab"}, "0001", []int{1, 2, 0}, []int{0, 3, 0}, []int{3, 0, 0}, []int{3, 3, 3}), "ab")
	wantShortest(t, automaton([]string{"b", "a", "^ab"}, "0010", []int{1, 3, 0}, []int{2, 0, 0}, []int{2, 2, 2}, []int{3, 3, 3}), "bb")
	wantShortest(t, ring(api.MaxStates, api.MaxStates-1), strings.Repeat("\x00", api.MaxStates-1))
	wantShortest(t, ring(api.MaxStates, 0), "")
}

func TestG4Count(t *testing.T) {
	for _, a := range []api.Auto{nothing, anything, made("'a'"), ring(api.MaxStates, 0)} {
		for _, n := range []int{-1, 8, 9, -8, 255, math.MaxInt, math.MinInt} {
			if got, err := auto.Count(a, n); got != 0 || err != api.ErrRange {
				t.Errorf("Count of %s and %d: %d, error %d; want 0, error %d", tellAuto(a), n, got, err, api.ErrRange)
			}
		}
	}
	all := []int{1, 256, 65536, 16777216, 4294967296, 1099511627776, 281474976710656, 72057594037927936}
	for n, want := range all {
		wantCount(t, anything, n, want)
		wantCount(t, nothing, n, 0)
		wantCount(t, ring(api.MaxStates, 7), n, map[bool]int{n == 7: want}[true])
	}
	for _, c := range []struct {
		pattern string
		want    [8]int
	}{
		{"''", [8]int{1}},
		{"'a'", [8]int{0, 1}},
		{"LEN(2)", [8]int{0, 0, 65536}},
		{"NOTANY('a')", [8]int{0, 255}},
		{"ANY('aab')", [8]int{0, 2}},
		{"ARBNO('a')", [8]int{1, 1, 1, 1, 1, 1, 1, 1}},
		{"ARBNO('ab' | 'c')", [8]int{1, 1, 2, 3, 5, 8, 13, 21}},
		{"ARBNO(ANY('ab'))", [8]int{1, 2, 4, 8, 16, 32, 64, 128}},
		{"'abcdef' ANY('gh')", [8]int{0, 0, 0, 0, 0, 0, 0, 2}},
		{"'abcdefgh'", [8]int{}},
		{"'a' ARB", [8]int{0, 1, 256, 65536, 16777216, 4294967296, 1099511627776, 281474976710656}},
		{"ARB '\xff'", [8]int{0, 1, 256, 65536, 16777216, 4294967296, 1099511627776, 281474976710656}},
		{"'a' | ANY('ab') | 'b'", [8]int{0, 2}}, // each text once, in however many ways
		{"ARB ARB 'a' ARB", [8]int{0, 1, 511, 256*256*256 - 255*255*255}},
	} {
		a := made(c.pattern)
		for n, want := range c.want {
			if n > 3 && strings.HasPrefix(c.pattern, "ARB ARB") {
				want = all[n] - power(255, n)
			}
			wantCount(t, a, n, want)
			b, err := auto.Not(a)
			if err != api.OK {
				t.Errorf("Not of %s: error %d", c.pattern, err)
			}
			wantCount(t, b, n, all[n]-want)
		}
	}
}

func power(base, n int) int {
	out := 1
	for range n {
		out *= base
	}
	return out
}
