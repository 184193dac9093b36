package numbers_test

import (
	"fmt"
	"math"
	"math/big"
	"strings"
	"testing"

	"scanfail/api"
	"scanfail/numbers"
)

// noBases are none; those at both ends lie beside one.
var noBases = []int{1, 0, -1, -2, -10, 37, 38, 62, 64, 256, math.MinInt, math.MaxInt, 1<<32 + 10}

func TestB3Base(t *testing.T) {
	for _, c := range []struct {
		n    int64
		base int
		want string
	}{
		{0, 2, "0"},
		{0, 36, "0"},
		{1, 2, "1"},
		{2, 2, "10"},
		{-5, 2, "-101"},
		{255, 16, "ff"},
		{-255, 16, "-ff"},
		{9, 10, "9"},
		{10, 11, "a"},
		{35, 36, "z"},
		{36, 36, "10"},
		{1295, 36, "zz"},
		{-1994, 10, "-1994"},
		{8, 8, "10"},
		{greatest, 2, strings.Repeat("1", 63)},
		{least, 2, "-1" + zeros(63)},
		{greatest, 36, "1y2p0ij32e8e7"},
		{least, 36, "-1y2p0ij32e8e8"},
		{greatest, 16, "7fffffffffffffff"},
		{least, 16, "-8000000000000000"},
	} {
		got, err := numbers.Base(c.n, c.base)
		if err != api.OK || got != c.want {
			t.Errorf("Base %d of %d: %q, error %d; want %q", c.base, c.n, got, err, c.want)
		}
	}
}

func TestB3BaseWrong(t *testing.T) {
	for _, base := range noBases {
		for _, n := range []int64{0, 1, -1, 10, least, greatest} {
			got, err := numbers.Base(n, base)
			if err != api.ErrRange || got != "" {
				t.Errorf("Base %d of %d: %q, error %d; want nothing, error %d", base, n, got, err, api.ErrRange)
			}
		}
	}
}

func TestB3Unbase(t *testing.T) {
	for _, c := range []struct {
		text string
		base int
		want int64
	}{
		{"0", 2, 0},
		{"-0", 2, 0},
		{"101", 2, 5},
		{"-101", 2, -5},
		{"ff", 16, 255},
		{"-ff", 16, -255},
		{"z", 36, 35},
		{"zz", 36, 1295},
		{"10", 36, 36},
		{"007", 8, 7},
		{"-007", 10, -7},
		{zeros(api.MaxText-1) + "1", 2, 1},
		{"-" + zeros(api.MaxText-2) + "z", 36, -35},
		{strings.Repeat("1", 63), 2, greatest},
		{"-1" + zeros(63), 2, least},
		{"1y2p0ij32e8e7", 36, greatest},
		{"-1y2p0ij32e8e8", 36, least},
		{"9223372036854775807", 10, greatest},
		{"-9223372036854775808", 10, least},
		{"7fffffffffffffff", 16, greatest},
		{"-8000000000000000", 16, least},
		{zeros(70) + "7fffffffffffffff", 16, greatest},
	} {
		got, err := numbers.Unbase(c.text, c.base)
		wantNumber(t, fmt.Sprintf("Unbase %d of %s", c.base, brief(c.text)), got, err, c.want)
	}
}

func TestB3UnbaseWrong(t *testing.T) {
	for _, c := range []struct {
		text string
		base int
		want api.Errno
	}{
		{"", 10, api.ErrForm},
		{"", 2, api.ErrForm},
		{"-", 10, api.ErrForm},
		{"-", 36, api.ErrForm},
		{"+", 10, api.ErrForm},
		{"+1", 10, api.ErrForm}, // no + here
		{"--1", 10, api.ErrForm},
		{"-+1", 10, api.ErrForm},
		{"1-", 10, api.ErrForm},
		{" 1", 10, api.ErrForm}, // and no blanks
		{"1 ", 10, api.ErrForm},
		{"\t1", 10, api.ErrForm},
		{"- 1", 10, api.ErrForm},
		{"2", 2, api.ErrForm},
		{"a", 10, api.ErrForm},
		{"g", 16, api.ErrForm},
		{"z", 35, api.ErrForm},
		{"A", 16, api.ErrForm}, // a great letter
		{"Z", 36, api.ErrForm},
		{"fF", 16, api.ErrForm},
		{"1_0", 10, api.ErrForm},
		{"0x1", 16, api.ErrForm},
		{"1.0", 10, api.ErrForm},
		{"`", 36, api.ErrForm}, // the bytes beside the letters
		{"{", 36, api.ErrForm},
		{"\x00", 36, api.ErrForm},
		{"\xff", 36, api.ErrForm},
		{"\u0661", 10, api.ErrForm},
		{strings.Repeat("1", 70) + "2", 2, api.ErrForm}, // and ErrRange, told behind it
		{strings.Repeat("z", 70) + "Z", 36, api.ErrForm},
		{"1" + zeros(63), 2, api.ErrRange},
		{"-1" + zeros(62) + "1", 2, api.ErrRange},
		{"1" + zeros(64), 2, api.ErrRange}, // wraps round to 0
		{strings.Repeat("1", 64), 2, api.ErrRange},
		{"1y2p0ij32e8e8", 36, api.ErrRange},
		{"-1y2p0ij32e8e9", 36, api.ErrRange},
		{"9223372036854775808", 10, api.ErrRange},
		{"-9223372036854775809", 10, api.ErrRange},
		{"8000000000000000", 16, api.ErrRange},
		{"10000000000000000", 16, api.ErrRange},
		{strings.Repeat("z", api.MaxText), 36, api.ErrRange},
		{zeros(api.MaxText + 1), 10, api.ErrMuch},
		{strings.Repeat("Z", api.MaxText+1), 10, api.ErrMuch},
		{strings.Repeat("9", api.MaxText+1), 10, api.ErrMuch},
	} {
		got, err := numbers.Unbase(c.text, c.base)
		wantError(t, fmt.Sprintf("Unbase %d of %s", c.base, brief(c.text)), got, err, c.want)
	}
}

// A wrong base is told ahead of all that is wrong with the text.
func TestB3UnbaseNoBase(t *testing.T) {
	for _, base := range noBases {
		for _, s := range []string{"", "-", "0", "1", "zz", "Z", zeros(api.MaxText + 1)} {
			got, err := numbers.Unbase(s, base)
			wantError(t, fmt.Sprintf("Unbase %d of %s", base, brief(s)), got, err, api.ErrRange)
		}
	}
}

// Of every byte and every base: just the digits of the base count.
func TestB3EachDigit(t *testing.T) {
	const all = "0123456789abcdefghijklmnopqrstuvwxyz"
	for base := 2; base <= 36; base++ {
		for b := range 256 {
			s := string([]byte{byte(b)})
			got, err := numbers.Unbase(s, base)
			if worth := strings.Index(all[:base], s); worth >= 0 {
				wantNumber(t, fmt.Sprintf("Unbase %d of %q", base, s), got, err, int64(worth))
			} else {
				wantError(t, fmt.Sprintf("Unbase %d of %q", base, s), got, err, api.ErrForm)
			}
		}
	}
}

// What Base writes is what Unbase reads, in all bases; and one beyond the ends is told of.
func TestB3BothWays(t *testing.T) {
	for base := 2; base <= 36; base++ {
		for _, n := range edges {
			s, err := numbers.Base(n, base)
			if want := big.NewInt(n).Text(base); err != api.OK || s != want {
				t.Errorf("Base %d of %d: %q, error %d; want %q", base, n, s, err, want)
			}
			got, err := numbers.Unbase(s, base)
			wantNumber(t, fmt.Sprintf("Unbase %d of %s", base, s), got, err, n)
		}
		above := new(big.Int).Add(big.NewInt(greatest), big.NewInt(1)).Text(base)
		below := new(big.Int).Sub(big.NewInt(least), big.NewInt(1)).Text(base)
		for _, s := range []string{above, below} {
			got, err := numbers.Unbase(s, base)
			wantError(t, fmt.Sprintf("Unbase %d of %s", base, s), got, err, api.ErrRange)
		}
	}
}
