package sets_test

import (
	"fmt"
	"regexp"
	"strings"
	"testing"

	"scanfail/api"
	"scanfail/sets"
)

func TestC2Print(t *testing.T) {
	for _, c := range []struct {
		s    api.Set
		want string
	}{
		{none, ""},
		{all, `\00-\ff`},
		{sets.Of("a"), "a"},
		{sets.Of("ab"), "ab"},
		{sets.Of("abc"), "a-c"},
		{sets.Of("abcd"), "a-d"},
		{sets.Of("ac"), "ac"},
		{sets.Of("zyxcba"), "a-cx-z"},
		{sets.Of("abdefhi"), "abd-fhi"},
		{sets.Not(sets.Of("q")), `\00-pr-\ff`},
		{sets.Of("\x00"), `\00`},
		{sets.Of("\xff"), `\ff`},
		{sets.Of("\x00\xff"), `\00\ff`}, // 255 and 0 are no neighbours
		{sets.Of("\xfe\xff"), `\fe\ff`},
		{sets.Of("\xfd\xfe\xff"), `\fd-\ff`},
		{sets.Of("\xfc\xfd\xff"), `\fc\fd\ff`},
		{sets.Of("\x00\x01\x02"), `\00-\02`},
		{sets.Of("\x3f\x40"), "?@"}, // runs across the bounds of the words
		{sets.Of("\x3e\x3f\x40"), ">-@"},
		{sets.Of("\x7e\x7f\x80\x81"), `~-\81`},
		{sets.Of("\xbf\xc0\xc1"), `\bf-\c1`},
		{sets.Of(" "), `\20`},
		{sets.Of("!"), "!"},
		{sets.Of(" !"), `\20!`},
		{sets.Of("~\x7f"), `~\7f`},
		{sets.Of(`-\^`), `\2d\5c\5e`},
		{sets.Of("+,-"), `+-\2d`},
		{sets.Of("-./"), `\2d-/`},
		{sets.Of(`[\]^_`), "[-_"},
		{sets.Of(`\]^`), `\5c-\5e`},
		{sets.Of("\xab\xcd"), `\ab\cd`},
	} {
		if got := sets.Print(c.s); got != c.want {
			t.Errorf("Print %x: %q; want %q", c.s, got, c.want)
		}
	}
}

// Each byte alone, two, three and all other runs that there are; what is printed is read.
func TestC2AllRuns(t *testing.T) {
	for first := range 256 {
		for last := first; last < 256; last++ {
			want := written(first)
			switch last - first {
			case 0:
			case 1:
				want += written(last)
			default:
				want += "-" + written(last)
			}
			s := run(first, last)
			if got := sets.Print(s); got != want {
				t.Errorf("Print of %d to %d: %q; want %q", first, last, got, want)
			}
			wantRead(t, want, s)
			wantRead(t, "^"+want, join(run(0, first-1), run(last+1, 255)))
		}
	}
}

func TestC2PrintedIsRead(t *testing.T) {
	for _, s := range manySets() {
		wantRead(t, sets.Print(s), s)
	}
}

func TestC2Read(t *testing.T) {
	for _, c := range []struct {
		text string
		want api.Set
	}{
		{"", none},
		{"^", all},
		{"a", sets.Of("a")},
		{"ab", sets.Of("ab")},
		{"ba", sets.Of("ab")},
		{"abcabc", sets.Of("abc")},
		{"a-c", sets.Of("abc")},
		{"a-a", sets.Of("a")},
		{"a-b", sets.Of("ab")},
		{"^a-a", join(run(0, 96), run(98, 255))},
		{"^a-c", join(run(0, 96), run(100, 255))},
		{"^a-ec-gd", join(run(0, 96), run(104, 255))}, // they overlap
		{"a-ec-gd", run('a', 'g')},
		{"x-za-c", sets.Of("abcxyz")},
		{"a-cd-f", run('a', 'f')},
		{"a-cc-e", run('a', 'e')},
		{"a-bc", sets.Of("abc")},
		{"!-~", run(33, 126)},
		{`\00-\ff`, all},
		{`^\00-\ff`, none},
		{`\00`, run(0, 0)},
		{`\ff`, run(255, 255)},
		{`\ff-\ff`, run(255, 255)},
		{`\fe-\ff`, run(254, 255)},
		{`\3f-\40`, run(63, 64)},
		{`\7f-\80`, run(127, 128)},
		{`\20`, sets.Of(" ")},
		{`\21`, sets.Of("!")}, // could stand for itself
		{`\61-\63`, sets.Of("abc")},
		{`\41-C`, sets.Of("ABC")},
		{`A-\43`, sets.Of("ABC")},
		{`\611`, sets.Of("a1")},
		{`\61\61a`, sets.Of("a")},
		{`\2d-\2f`, sets.Of("-./")},
		{`+-\2d`, sets.Of("+,-")},
		{`\5c\5e\2d`, sets.Of(`-\^`)},
		{`^\5e`, join(run(0, 93), run(95, 255))},
		{"]", sets.Of("]")},
		{"[a]", sets.Of("[]a")},
		{strings.Repeat("a", api.MaxText), sets.Of("a")},
		{"^" + strings.Repeat("a", api.MaxText-1), join(run(0, 96), run(98, 255))},
		{strings.Repeat(`\00-\ff`, api.MaxText/7), all},
	} {
		wantRead(t, c.text, c.want)
	}
}

func TestC2ReadWrongForm(t *testing.T) {
	for _, c := range []struct {
		text string
		at   int
	}{
		{"-", 0},
		{"-a", 0},
		{"--", 0},
		{" ", 0},
		{"\x7f", 0},
		{"\x80", 0},
		{"\xff", 0},
		{"\x00", 0},
		{"a b", 1},
		{"a\x7f", 1},
		{"a\x80", 1},
		{"^^", 1},
		{"^-", 1},
		{"^ ", 1},
		{"^a^", 2},
		{"a^", 1},
		{"a-", 2}, // it ends too early
		{"^a-", 3},
		{"a--", 2},
		{"a-^", 2},
		{"a- ", 2},
		{"a-b-", 3},
		{"a-b-c", 3},
		{"a-a-", 3},
		{"ab-c-d", 4},
		{`\`, 1},
		{`\0`, 2},
		{`a\`, 2},
		{`a\6`, 3},
		{`^\`, 2},
		{`^\f`, 3},
		{`a-\`, 3},
		{`a-\7`, 4},
		{`\61-`, 4},
		{`\61-\6`, 6},
		{`\g0`, 1},
		{`\0g`, 2},
		{`\A0`, 1}, // a great letter
		{`\0A`, 2},
		{`\aF`, 2},
		{`\FF`, 1},
		{`a-\7A`, 4},
		{`\:0`, 1}, // the bytes beside the digits
		{`\/0`, 1},
		{"\\`0", 1},
		{`\0:`, 2},
		{`\0/`, 2},
		{"\\0`", 2},
		{`\-`, 1},
		{`\\`, 1},
		{`\^`, 1},
		{`\0-`, 2},
		{`\ 0`, 1},
		{strings.Repeat("a", api.MaxText-1) + "-", api.MaxText},
		{strings.Repeat("a", api.MaxText-1) + "^", api.MaxText - 1},
	} {
		wantFault(t, c.text, api.ErrForm, c.at)
	}
}

func TestC2ReadWrongRange(t *testing.T) {
	for _, c := range []struct {
		text string
		at   int
	}{
		{"z-a", 2},
		{"b-a", 2},
		{"^b-a", 3},
		{"xb-a", 3},
		{"a-cz-x", 5},
		{`\62-a`, 4},
		{`b-\61`, 2},
		{`\62-\61`, 4},
		{`\ff-\00`, 4},
		{`\01-\00`, 4},
		{`\80-\7f`, 4},
		{`\ff-\fe`, 4},
		{"a-bb-a", 5},
	} {
		wantFault(t, c.text, api.ErrRange, c.at)
	}
}

// Too much is told ahead of all else; of the others the one that is met first.
func TestC2ReadWhatIsToldFirst(t *testing.T) {
	for _, c := range []struct {
		text string
		err  api.Errno
		at   int
	}{
		{strings.Repeat("a", api.MaxText+1), api.ErrMuch, 0},
		{strings.Repeat(" ", api.MaxText+1), api.ErrMuch, 0},
		{"b-a" + strings.Repeat("a", api.MaxText), api.ErrMuch, 0},
		{"^" + strings.Repeat("a", api.MaxText), api.ErrMuch, 0},
		{strings.Repeat("a", api.MaxText) + "-", api.ErrMuch, 0},
		{"b-a ", api.ErrRange, 2},
		{"b-a-", api.ErrRange, 2},
		{`b-a\`, api.ErrRange, 2},
		{`b-\61\`, api.ErrRange, 2},
		{"b-a^", api.ErrRange, 2},
		{"b-a d-c", api.ErrRange, 2},
		{"d-cb-a", api.ErrRange, 2},
		{" b-a", api.ErrForm, 0},
		{"a b-a", api.ErrForm, 1},
		{"a-b-a", api.ErrForm, 3},
		{`b-\6`, api.ErrForm, 4}, // the run's last byte is none as yet
		{`b-\0`, api.ErrForm, 4},
		{`b-\0G`, api.ErrForm, 4},
		{`b-\`, api.ErrForm, 3},
		{"b- a", api.ErrForm, 2},
		{"b- ", api.ErrForm, 2}, // below b, and no byte that stands for itself
	} {
		wantFault(t, c.text, c.err, c.at)
	}
}

// Of every byte: alone, behind ^, at both ends of a run, and by sixteens.
func TestC2ReadEachByte(t *testing.T) {
	for b := range 256 {
		s := string([]byte{byte(b)})
		if written(b) == s {
			wantRead(t, s, run(b, b))
			wantRead(t, s+`-\ff`, run(b, 255))
			wantRead(t, `\00-`+s, run(0, b))
		} else if s != "^" && s != `\` {
			wantFault(t, s, api.ErrForm, 0)
			wantFault(t, `\00-`+s, api.ErrForm, 4)
		}
		wantRead(t, sixteens(b), run(b, b))
		wantRead(t, "^"+sixteens(b), join(run(0, b-1), run(b+1, 255)))
		wantRead(t, sixteens(b)+`-\ff`, run(b, 255))
		wantRead(t, `\00-`+sixteens(b), run(0, b))
		if digit := strings.Contains("0123456789abcdef", s); !digit {
			wantFault(t, `\`+s+"0", api.ErrForm, 1)
			wantFault(t, `\0`+s, api.ErrForm, 2)
		}
	}
}

const aByte = `(?:[!-,./-\[\]_-~]|\\[0-9a-f][0-9a-f])`

var (
	aRun    = regexp.MustCompile(`(` + aByte + `)(?:-(` + aByte + `))?`)
	aText   = regexp.MustCompile(`^\^?(?:` + aByte + `(?:-` + aByte + `)?)*$`)
	endings = []string{"", "0", "00"}
)

// goesOn tells whether something can stand behind s with which it is well written.
func goesOn(s string) bool {
	for _, e := range endings {
		if aText.MatchString(s + e) {
			return true
		}
	}
	return false
}

// formEnds is the place up to which a text is well written, or its length, and whether it is that as a whole.
func formEnds(text string) (int, bool) {
	for i := range len(text) {
		if !goesOn(text[:i+1]) {
			return i, false
		}
	}
	return len(text), aText.MatchString(text)
}

func valueOf(s string) int {
	if len(s) == 1 {
		return int(s[0])
	}
	var n int
	fmt.Sscanf(s[1:], "%02x", &n)
	return n
}

// Short texts of the signs that count, all of them, held against what the form of a text says, sign by sign.
func TestC2ReadAllSmallTexts(t *testing.T) {
	for _, text := range append(small(`ab-\^6G `, 5), small(`6-\a`, 7)...) {
		end, well := formEnds(text)
		want, wrongAt := none, -1
		for _, m := range aRun.FindAllStringSubmatchIndex(text[:end], -1) {
			first := valueOf(text[m[2]:m[3]])
			last := first
			if m[4] >= 0 {
				last = valueOf(text[m[4]:m[5]])
			}
			if last < first && wrongAt < 0 {
				wrongAt = m[4]
			}
			want = join(want, run(first, last))
		}
		switch {
		case wrongAt >= 0:
			wantFault(t, text, api.ErrRange, wrongAt)
		case !well:
			wantFault(t, text, api.ErrForm, end)
		case strings.HasPrefix(text, "^"):
			wantRead(t, text, api.Set{^want[0], ^want[1], ^want[2], ^want[3]})
		default:
			wantRead(t, text, want)
		}
	}
}
