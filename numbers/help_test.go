package numbers_test

import (
	"math"
	"math/big"
	"strings"
	"testing"

	"scanfail/api"
)

const (
	least    = math.MinInt64
	greatest = math.MaxInt64
)

// edges are numbers at which something ends: the small ones, the bounds of the sizes, the roots, the powers of 2 and what lies beside them.
var edges = makeEdges()

func makeEdges() []int64 {
	out := []int64{least, least + 1, least + 2, greatest - 2, greatest - 1, greatest, least / 2, least/2 - 1, least / 3, greatest / 2, greatest/2 + 1, greatest / 3, greatest/3 + 1}
	for n := int64(-40); n <= 40; n++ {
		out = append(out, n)
	}
	for _, n := range []int64{1e9, 1e18, 3037000498, 3037000499, 3037000500, 2097151, 2097152, 1 << 21, 1 << 31, 1 << 32, 1 << 33, 1 << 61, 1 << 62, 7 * 7 * 7 * 11 * 13, 600851475143} {
		out = append(out, n-1, n, n+1, 1-n, -n, -n-1)
	}
	return out
}

// zeros is a text of n noughts.
func zeros(n int) string { return strings.Repeat("0", n) }

func brief(s string) string {
	if len(s) > 60 {
		return s[:60] + ".."
	}
	return s
}

func wantNumber(t *testing.T, what string, got int64, err api.Errno, want int64) {
	t.Helper()
	if err != api.OK || got != want {
		t.Errorf("%s: %d, error %d; want %d", what, got, err, want)
	}
}

// wantError also asks Z4: beside an error there is nothing.
func wantError(t *testing.T, what string, got int64, err, want api.Errno) {
	t.Helper()
	if err != want || got != 0 {
		t.Errorf("%s: %d, error %d; want 0, error %d", what, got, err, want)
	}
}

// wantBig holds an answer against what numbers without bounds say: ErrRange, if that is none of 64 bits.
func wantBig(t *testing.T, what string, got int64, err api.Errno, want *big.Int) {
	t.Helper()
	if want.IsInt64() {
		wantNumber(t, what, got, err, want.Int64())
		return
	}
	wantError(t, what, got, err, api.ErrRange)
}
