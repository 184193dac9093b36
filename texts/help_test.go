package texts_test

import (
	"math"
	"strings"
	"testing"

	"scanfail/api"
)

// full is as long as a text may be, over is one byte longer.
var (
	full = strings.Repeat("ab", api.MaxText/2)
	over = full + "c"
)

// far are numbers at which sums, differences and products wrap round.
var far = []int{math.MinInt, math.MinInt + 1, -1 << 62, 1 << 62, math.MaxInt - 1, math.MaxInt}

// small are all texts of at most n bytes of the alphabet.
func small(alphabet string, n int) []string {
	out := []string{""}
	last := out
	for range n {
		var next []string
		for _, s := range last {
			for i := range len(alphabet) {
				next = append(next, s+alphabet[i:i+1])
			}
		}
		out = append(out, next...)
		last = next
	}
	return out
}

// brief is a text as a failure tells it: 64 KiB of it would help nobody.
func brief(s string) string {
	if len(s) > 60 {
		return s[:60] + ".."
	}
	return s
}

func wantText(t *testing.T, what, got string, err api.Errno, want string) {
	t.Helper()
	if err != api.OK || got != want {
		t.Errorf("%s: %q (%d bytes), error %d; want %q (%d bytes)", what, brief(got), len(got), err, brief(want), len(want))
	}
}

func wantNumber(t *testing.T, what string, got int, err api.Errno, want int) {
	t.Helper()
	if err != api.OK || got != want {
		t.Errorf("%s: %d, error %d; want %d", what, got, err, want)
	}
}

// wantError also asks Z4: beside an error there is nothing.
func wantError(t *testing.T, what, got string, err, want api.Errno) {
	t.Helper()
	if err != want || got != "" {
		t.Errorf("%s: %q, error %d; want nothing, error %d", what, brief(got), err, want)
	}
}

func wantNumberError(t *testing.T, what string, got int, err, want api.Errno) {
	t.Helper()
	if err != want || got != 0 {
		t.Errorf("%s: %d, error %d; want 0, error %d", what, got, err, want)
	}
}
