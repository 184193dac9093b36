package numbers_test

import (
	"math/big"
	"strings"
	"testing"

	"scanfail/api"
	"scanfail/numbers"
)

func TestB1Read(t *testing.T) {
	for _, c := range []struct {
		text string
		want int64
	}{
		{"", 0},
		{" ", 0},
		{"\t", 0},
		{" \t \t\t ", 0},
		{strings.Repeat(" \t", api.MaxText/2), 0},
		{"0", 0},
		{"+0", 0},
		{"-0", 0},
		{"7", 7},
		{"+7", 7},
		{"-7", -7},
		{"1994", 1994},
		{"1234567890", 1234567890},
		{" 12", 12},
		{"12 ", 12},
		{"\t12", 12},
		{"12\t", 12},
		{"\t -12 \t", -12},
		{"  +12\t\t", 12},
		{"007", 7},
		{"-007", -7},
		{"+000", 0},
		{zeros(100) + "5", 5},
		{zeros(api.MaxText-1) + "5", 5},
		{"-" + zeros(api.MaxText-2) + "5", -5},
		{strings.Repeat(" ", api.MaxText-1) + "5", 5},
		{"5" + strings.Repeat("\t", api.MaxText-1), 5},
		{"9223372036854775806", greatest - 1},
		{"9223372036854775807", greatest},
		{"+9223372036854775807", greatest},
		{"0009223372036854775807", greatest},
		{"-9223372036854775807", least + 1},
		{"-9223372036854775808", least},
		{" -0009223372036854775808\t", least},
	} {
		got, err := numbers.Read(c.text)
		wantNumber(t, "Read "+brief(c.text), got, err, c.want)
	}
}

func TestB1ReadWrong(t *testing.T) {
	for _, c := range []struct {
		text string
		want api.Errno
	}{
		{"+", api.ErrForm},
		{"-", api.ErrForm},
		{" - ", api.ErrForm},
		{"+-1", api.ErrForm},
		{"--1", api.ErrForm},
		{"++1", api.ErrForm},
		{"-+1", api.ErrForm},
		{"1-", api.ErrForm},
		{"1+", api.ErrForm},
		{"- 1", api.ErrForm},
		{"+\t1", api.ErrForm},
		{"1 2", api.ErrForm},
		{"1\t2", api.ErrForm},
		{"x", api.ErrForm},
		{"1x", api.ErrForm},
		{"x1", api.ErrForm},
		{"a", api.ErrForm},
		{"A", api.ErrForm},
		{"1e3", api.ErrForm},
		{"1.0", api.ErrForm},
		{"1_000", api.ErrForm},
		{"0x10", api.ErrForm},
		{"/", api.ErrForm}, // the bytes beside the digits
		{":", api.ErrForm},
		{"\n1", api.ErrForm},
		{"1\n", api.ErrForm},
		{"1\r", api.ErrForm},
		{"\v1", api.ErrForm},
		{"\x00", api.ErrForm},
		{"1\x00", api.ErrForm},
		{"\xff", api.ErrForm},
		{"\u00a01", api.ErrForm},               // a blank of another kind
		{"\u0661", api.ErrForm},                // a digit of another kind
		{"99999999999999999999x", api.ErrForm}, // and ErrRange, told behind it
		{"-99999999999999999999 9", api.ErrForm},
		{"9223372036854775808", api.ErrRange},
		{"-9223372036854775809", api.ErrRange},
		{"+9223372036854775808", api.ErrRange},
		{"18446744073709551615", api.ErrRange},
		{"18446744073709551616", api.ErrRange}, // wraps round to 0
		{"-18446744073709551616", api.ErrRange},
		{"18446744073709551617", api.ErrRange},
		{"27670116110564327424", api.ErrRange},
		{"100000000000000000000", api.ErrRange},
		{strings.Repeat("9", api.MaxText), api.ErrRange},
		{"1" + zeros(api.MaxText-1), api.ErrRange},
		{strings.Repeat("9", api.MaxText+1), api.ErrMuch},
		{zeros(api.MaxText + 1), api.ErrMuch},
		{strings.Repeat(" ", api.MaxText+1), api.ErrMuch},
		{strings.Repeat("x", api.MaxText+1), api.ErrMuch},
	} {
		got, err := numbers.Read(c.text)
		wantError(t, "Read "+brief(c.text), got, err, c.want)
	}
}

// Of every byte alone, ahead of a digit and behind it.
func TestB1ReadEachByte(t *testing.T) {
	for b := range 256 {
		s := string([]byte{byte(b)})
		alone, errAlone := numbers.Read(s)
		ahead, errAhead := numbers.Read(s + "4")
		behind, errBehind := numbers.Read("4" + s)
		switch {
		case s == " " || s == "\t":
			wantNumber(t, "Read a blank", alone, errAlone, 0)
			wantNumber(t, "Read a blank and 4", ahead, errAhead, 4)
			wantNumber(t, "Read 4 and a blank", behind, errBehind, 4)
		case s >= "0" && s <= "9":
			wantNumber(t, "Read "+s, alone, errAlone, int64(b-'0'))
			wantNumber(t, "Read "+s+"4", ahead, errAhead, int64(b-'0')*10+4)
			wantNumber(t, "Read 4"+s, behind, errBehind, int64(b-'0')+40)
		case s == "+":
			wantError(t, "Read +", alone, errAlone, api.ErrForm)
			wantNumber(t, "Read +4", ahead, errAhead, 4)
			wantError(t, "Read 4+", behind, errBehind, api.ErrForm)
		case s == "-":
			wantError(t, "Read -", alone, errAlone, api.ErrForm)
			wantNumber(t, "Read -4", ahead, errAhead, -4)
			wantError(t, "Read 4-", behind, errBehind, api.ErrForm)
		default:
			wantError(t, "Read byte alone", alone, errAlone, api.ErrForm)
			wantError(t, "Read byte and 4", ahead, errAhead, api.ErrForm)
			wantError(t, "Read 4 and byte", behind, errBehind, api.ErrForm)
		}
	}
}

func TestB1Print(t *testing.T) {
	for _, c := range []struct {
		n    int64
		want string
	}{
		{0, "0"},
		{1, "1"},
		{-1, "-1"},
		{9, "9"},
		{10, "10"},
		{-10, "-10"},
		{99, "99"},
		{100, "100"},
		{-1994, "-1994"},
		{1e18, "1000000000000000000"},
		{greatest, "9223372036854775807"},
		{least, "-9223372036854775808"},
		{least + 1, "-9223372036854775807"},
	} {
		if got := numbers.Print(c.n); got != c.want {
			t.Errorf("Print %d: %q; want %q", c.n, got, c.want)
		}
	}
}

// What is printed is read.
func TestB1ReadPrinted(t *testing.T) {
	for _, n := range edges {
		s := numbers.Print(n)
		if want := big.NewInt(n).String(); s != want {
			t.Errorf("Print %d: %q", n, s)
		}
		got, err := numbers.Read(s)
		wantNumber(t, "Read "+s, got, err, n)
	}
}
