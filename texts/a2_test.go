package texts_test

import (
	"fmt"
	"math"
	"strings"
	"testing"

	"scanfail/api"
	"scanfail/texts"
)

func TestA2Dupl(t *testing.T) {
	for _, c := range []struct {
		text string
		n    int
		want string
	}{
		{"", 0, ""},
		{"", 5, ""},
		{"", math.MaxInt, ""},
		{"a", 0, ""},
		{"abc", 0, ""},
		{"abc", 1, "abc"},
		{"abc", 2, "abcabc"},
		{"\x80\xff", 3, "\x80\xff\x80\xff\x80\xff"},
		{"a", api.MaxText, strings.Repeat("a", api.MaxText)},
		{"ab", api.MaxText / 2, full},
		{"abc", api.MaxText / 3, strings.Repeat("abc", api.MaxText/3)},
		{full, 0, ""},
		{full, 1, full},
	} {
		got, err := texts.Dupl(c.text, c.n)
		wantText(t, fmt.Sprintf("Dupl %q by %d", brief(c.text), c.n), got, err, c.want)
	}
}

func TestA2DuplWrong(t *testing.T) {
	for _, c := range []struct {
		text string
		n    int
		want api.Errno
	}{
		{"", -1, api.ErrRange},
		{"", math.MinInt, api.ErrRange},
		{"a", -1, api.ErrRange},
		{"a", math.MinInt, api.ErrRange},
		{full, -1, api.ErrRange},
		{"a", api.MaxText + 1, api.ErrMuch},
		{"ab", api.MaxText/2 + 1, api.ErrMuch},
		{"abc", api.MaxText/3 + 1, api.ErrMuch},
		{"a", math.MaxInt, api.ErrMuch},
		{"ab", 1 << 62, api.ErrMuch},
		{"abcd", 1 << 62, api.ErrMuch}, // the product wraps round to 0
		{full, 2, api.ErrMuch},
		{full, 1 << 48, api.ErrMuch},
	} {
		got, err := texts.Dupl(c.text, c.n)
		wantError(t, fmt.Sprintf("Dupl %q by %d", brief(c.text), c.n), got, err, c.want)
	}
}

func TestA2Replace(t *testing.T) {
	for _, c := range []struct{ text, from, to, want string }{
		{"banana", "an", "xy", "bxyxyx"},
		{"", "a", "b", ""},
		{"abc", "x", "y", "abc"},
		{"abc", "abc", "bca", "bca"},
		{"aabb", "ab", "ba", "bbaa"},
		{"banana", "aa", "xy", "bynyny"},
		{"banana", "ana", "xyz", "bzyzyz"},
		{"ab", "aab", "xyz", "yz"},
		{"aaa", "aba", "xya", "aaa"},
		{"\x00a\x80\xff", "\x00\x80\xff", "\xff\x00\x80", "\xffa\x00\x80"},
		{"é", "\xa9", "\xa8", "è"},
		{full, "a", "b", strings.Repeat("b", api.MaxText)},
		{"ab", full, full, "ab"},
		{"ab", strings.Repeat("a", api.MaxText), strings.Repeat("x", api.MaxText-1) + "y", "yb"},
	} {
		got, err := texts.Replace(c.text, c.from, c.to)
		wantText(t, fmt.Sprintf("Replace %q, %q, %q", brief(c.text), brief(c.from), brief(c.to)), got, err, c.want)
	}
}

// Of every byte alone: it becomes what it is told to, and all others stay.
func TestA2ReplaceEachByte(t *testing.T) {
	all := make([]byte, 256)
	for b := range all {
		all[b] = byte(b)
	}
	for b := range 256 {
		want := append([]byte(nil), all...)
		want[b] = byte(255 - b)
		got, err := texts.Replace(string(all), string(all[b:b+1]), string(want[b:b+1]))
		wantText(t, fmt.Sprintf("Replace byte %d", b), got, err, string(want))
	}
}

func TestA2ReplaceWrong(t *testing.T) {
	for _, c := range []struct{ text, from, to string }{
		{"", "", ""},
		{"abc", "", ""},
		{"abc", "", "x"},
		{"abc", "a", ""},
		{"abc", "a", "xy"},
		{"abc", "ab", "x"},
		{"", "ab", "x"},
		{"abc", full, "x"},
		{"abc", "a", full},
	} {
		got, err := texts.Replace(c.text, c.from, c.to)
		wantError(t, fmt.Sprintf("Replace %q, %q, %q", c.text, brief(c.from), brief(c.to)), got, err, api.ErrFit)
	}
}

func TestA2Substr(t *testing.T) {
	for _, c := range []struct {
		text  string
		at, n int
		want  string
	}{
		{"", 1, 0, ""},
		{"abc", 1, 0, ""},
		{"abc", 1, 1, "a"},
		{"abc", 1, 3, "abc"},
		{"abc", 2, 1, "b"},
		{"abc", 2, 2, "bc"},
		{"abc", 3, 1, "c"},
		{"abc", 3, 0, ""},
		{"abc", 4, 0, ""},
		{"a\x80\xff", 2, 2, "\x80\xff"},
		{full, 1, api.MaxText, full},
		{full, api.MaxText, 1, "b"},
		{full, api.MaxText + 1, 0, ""},
	} {
		got, err := texts.Substr(c.text, c.at, c.n)
		wantText(t, fmt.Sprintf("Substr %q from %d, %d bytes", brief(c.text), c.at, c.n), got, err, c.want)
	}
}

func TestA2SubstrWrong(t *testing.T) {
	for _, c := range []struct {
		text  string
		at, n int
	}{
		{"", 0, 0},
		{"", 1, 1},
		{"", 2, 0},
		{"abc", 0, 0},
		{"abc", 0, 1},
		{"abc", -1, 1},
		{"abc", 1, -1},
		{"abc", 2, -1},
		{"abc", 4, -1},
		{"abc", 0, -1},
		{"abc", 1, 4},
		{"abc", 2, 3},
		{"abc", 3, 2},
		{"abc", 4, 1},
		{"abc", 5, 0},
		{"abc", 5, -1},
		{"abc", 2, math.MaxInt},
		{"abc", math.MaxInt, 2},
		{"abc", math.MaxInt, math.MaxInt},
		{"abc", math.MinInt, math.MinInt},
		{"abc", math.MinInt, 0},
		{"abc", 1, math.MinInt},
		{full, 1, api.MaxText + 1},
		{full, api.MaxText + 2, 0},
	} {
		got, err := texts.Substr(c.text, c.at, c.n)
		wantError(t, fmt.Sprintf("Substr %q from %d, %d bytes", brief(c.text), c.at, c.n), got, err, api.ErrNone)
	}
}

func TestA2Pad(t *testing.T) {
	for _, c := range []struct {
		text        string
		n           int
		left, right string
	}{
		{"", 0, "", ""},
		{"", 1, "*", "*"},
		{"", 3, "***", "***"},
		{"abc", 4, "*abc", "abc*"},
		{"abc", 6, "***abc", "abc***"},
		{"abc", 3, "abc", "abc"},
		{"abc", 2, "abc", "abc"},
		{"abc", 0, "abc", "abc"},
		{"abc", -1, "abc", "abc"},
		{"abc", math.MinInt, "abc", "abc"},
		{"abc", math.MinInt + 2, "abc", "abc"},
		{"", math.MinInt, "", ""},
		{"a", api.MaxText, strings.Repeat("*", api.MaxText-1) + "a", "a" + strings.Repeat("*", api.MaxText-1)},
		{full, api.MaxText, full, full},
		{full, 1, full, full},
		{full, math.MinInt, full, full},
	} {
		got, err := texts.Lpad(c.text, c.n, "*")
		wantText(t, fmt.Sprintf("Lpad %q to %d", brief(c.text), c.n), got, err, c.left)
		got, err = texts.Rpad(c.text, c.n, "*")
		wantText(t, fmt.Sprintf("Rpad %q to %d", brief(c.text), c.n), got, err, c.right)
	}
	for _, fill := range []string{" ", "a", "\x00", "\x80", "\xff"} {
		got, err := texts.Lpad("x", 3, fill)
		wantText(t, fmt.Sprintf("Lpad with %q", fill), got, err, fill+fill+"x")
		got, err = texts.Rpad("x", 3, fill)
		wantText(t, fmt.Sprintf("Rpad with %q", fill), got, err, "x"+fill+fill)
	}
}

func TestA2PadWrong(t *testing.T) {
	for _, c := range []struct {
		text string
		n    int
		fill string
		want api.Errno
	}{
		{"abc", 5, "", api.ErrFit},
		{"abc", 5, "ab", api.ErrFit},
		{"abc", 5, "é", api.ErrFit},
		{"abc", 2, "", api.ErrFit},
		{"abc", -1, "ab", api.ErrFit},
		{"abc", 5, over, api.ErrFit}, // fill is not one of the texts that may be too long
		{"abc", api.MaxText + 1, "", api.ErrFit},
		{"abc", math.MaxInt, "ab", api.ErrFit},
		{"abc", api.MaxText + 1, "*", api.ErrMuch},
		{"", api.MaxText + 1, "*", api.ErrMuch},
		{full, api.MaxText + 1, "*", api.ErrMuch},
		{"abc", math.MaxInt, "*", api.ErrMuch},
		{over, 5, "**", api.ErrMuch},
	} {
		what := fmt.Sprintf("pad %q to %d with %q", brief(c.text), c.n, brief(c.fill))
		got, err := texts.Lpad(c.text, c.n, c.fill)
		wantError(t, "L"+what, got, err, c.want)
		got, err = texts.Rpad(c.text, c.n, c.fill)
		wantError(t, "R"+what, got, err, c.want)
	}
}
