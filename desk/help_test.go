package desk_test

import (
	"fmt"
	"strings"
	"testing"

	"scanfail/api"
	"scanfail/desk"
)

// wrong is how an error is answered.
func wrong(err api.Errno) string { return fmt.Sprintf("error %d", int(err)) }

// brief is a text as it is told: of a long one how it begins and ends, and how long it is.
func brief(s string) string {
	if len(s) <= 200 {
		return fmt.Sprintf("%q", s)
	}
	return fmt.Sprintf("%q..%q:%d", s[:40], s[len(s)-20:], len(s))
}

// want holds what a desk answers, to the byte.
func want(t *testing.T, d *desk.Desk, line, answer string) {
	t.Helper()
	if got := d.Do(line); got != answer {
		t.Errorf("Do(%s) is %s; want %s", brief(line), brief(got), brief(answer))
	}
}

// wantWrong: this is answered, and no more.
func wantWrong(t *testing.T, d *desk.Desk, line string, err api.Errno) {
	t.Helper()
	want(t, d, line, wrong(err))
}

// oks does what lines ask for, all of which is answered ok.
func oks(t *testing.T, d *desk.Desk, lines ...string) {
	t.Helper()
	for _, line := range lines {
		if got := d.Do(line); got != "ok" {
			t.Fatalf("Do(%s) is %s; want ok", brief(line), brief(got))
		}
	}
}

// after is a desk that has done what lines ask for.
func after(t *testing.T, lines ...string) *desk.Desk {
	t.Helper()
	d := desk.New()
	oks(t, d, lines...)
	return d
}

// times is a line so many times.
func times(line string, n int) []string {
	out := make([]string, n)
	for i := range out {
		out[i] = line
	}
	return out
}

// names are N0, N1 and so on.
func names(n int) []string {
	var out []string
	for i := range n {
		out = append(out, fmt.Sprintf("N%d", i))
	}
	return out
}

// news are the lines that make programs with these names.
func news(l []string) []string {
	var out []string
	for _, name := range l {
		out = append(out, "new "+name)
	}
	return out
}

// asked are the names that state looks at.
var asked = append([]string{"A", "B", "AB", "A1", "NEW", ""}, names(api.MaxNamed+1)...)

// state is all that a desk tells without being changed.
func state(d *desk.Desk) string {
	var out strings.Builder
	for _, name := range asked {
		list, run := d.Do("list "+name), d.Do("run "+name)
		if list != wrong(api.ErrName) || run != list {
			fmt.Fprintf(&out, "%s: %q %q\n", name, list, run)
		}
	}
	return out.String()
}

// whole is all that a desk ever tells: its state, and that ahead of each change, down to the first one. The desk then has no change left.
func whole(d *desk.Desk) string {
	out := []string{state(d)}
	for d.Do("undo") == "ok" {
		out = append(out, state(d))
	}
	return strings.Join(out, "--\n")
}

// wantSame: two desks tell the same, for ever.
func wantSame(t *testing.T, what string, a, b *desk.Desk) {
	t.Helper()
	if got, want := whole(a), whole(b); got != want {
		t.Errorf("%s:\n%s\nwant\n%s", what, brief(got), brief(want))
	}
}

// dice tells numbers that look mixed, the same ones each time.
type dice uint64

func (d *dice) below(n int) int {
	*d ^= *d << 13
	*d ^= *d >> 7
	*d ^= *d << 17
	return int(uint64(*d) >> 11 % uint64(n))
}

// pick is one of these.
func pick[T any](d *dice, l ...T) T { return l[d.below(len(l))] }
