package texts_test

import (
	"fmt"
	"math"
	"strings"
	"testing"

	"scanfail/api"
	"scanfail/texts"
)

func TestA1Trim(t *testing.T) {
	for _, c := range []struct{ text, want string }{
		{"", ""},
		{"a", "a"},
		{"a ", "a"},
		{"a\t", "a"},
		{"abc \t ", "abc"},
		{"abc\t \t", "abc"},
		{" a", " a"},
		{"\t a b\t", "\t a b"},
		{" ", ""},
		{"\t", ""},
		{" \t \t", ""},
		{"a\n", "a\n"},
		{"a \n", "a \n"},
		{"a\r", "a\r"},
		{"a\v", "a\v"},
		{"a\f", "a\f"},
		{"a\x00", "a\x00"},
		{"a\u00a0", "a\u00a0"},
		{"\xff\xfe ", "\xff\xfe"},
		{"\xa0\x89\t", "\xa0\x89"},
		{full, full},
		{strings.Repeat(" ", api.MaxText), ""},
	} {
		got, err := texts.Trim(c.text)
		wantText(t, fmt.Sprintf("Trim %q", brief(c.text)), got, err, c.want)
	}
}

func TestA1Reverse(t *testing.T) {
	for _, c := range []struct{ text, want string }{
		{"", ""},
		{"a", "a"},
		{"ab", "ba"},
		{"abc", "cba"},
		{"banana", "ananab"},
		{"\x00\x80\xff", "\xff\x80\x00"},
		{"aé", "\xa9\xc3a"},
		{full, strings.Repeat("ba", api.MaxText/2)},
	} {
		got, err := texts.Reverse(c.text)
		wantText(t, fmt.Sprintf("Reverse %q", brief(c.text)), got, err, c.want)
	}
}

func TestA1Rotate(t *testing.T) {
	for _, c := range []struct {
		text string
		n    int
		want string
	}{
		{"abc", 0, "abc"},
		{"abc", 1, "bca"},
		{"abc", 2, "cab"},
		{"abc", 3, "abc"},
		{"abc", 4, "bca"},
		{"abc", 302, "cab"},
		{"abc", -1, "cab"},
		{"abc", -2, "bca"},
		{"abc", -3, "abc"},
		{"abc", -4, "cab"},
		{"abc", -301, "cab"},
		{"a", 7, "a"},
		{"a", -7, "a"},
		{"\x00\x80\xff", 1, "\x80\xff\x00"},
		{"abc", math.MaxInt, "bca"}, // 2^63 - 1 is 1 modulo 3
		{"abc", math.MinInt, "bca"}, // -2^63 is 1 modulo 3
		{"abcd", math.MinInt, "abcd"},
		{full, 1, full[1:] + "a"},
		{full, api.MaxText, full},
		{full, api.MaxText + 1, full[1:] + "a"},
		{full, -1, "b" + full[:api.MaxText-1]},
	} {
		got, err := texts.Rotate(c.text, c.n)
		wantText(t, fmt.Sprintf("Rotate %q by %d", brief(c.text), c.n), got, err, c.want)
	}
	for _, n := range append([]int{0, 1, -1, 5, -5}, far...) {
		got, err := texts.Rotate("", n)
		wantText(t, fmt.Sprintf("Rotate nothing by %d", n), got, err, "")
	}
}

// Turned byte by byte, as many times: the slow way to say the same.
func TestA1RotateStepByStep(t *testing.T) {
	for _, s := range []string{"a", "ab", "abc", "abcdefg"} {
		there, back := s, s
		for n := range 20 {
			got, err := texts.Rotate(s, n)
			wantText(t, fmt.Sprintf("Rotate %q by %d", s, n), got, err, there)
			got, err = texts.Rotate(s, -n)
			wantText(t, fmt.Sprintf("Rotate %q by %d", s, -n), got, err, back)
			there = there[1:] + there[:1]
			back = back[len(back)-1:] + back[:len(back)-1]
		}
	}
}

func TestA1Compare(t *testing.T) {
	for _, c := range []struct {
		a, b string
		want int
	}{
		{"", "", 0},
		{"a", "a", 0},
		{"banana", "banana", 0},
		{"", "a", -1},
		{"", "\x00", -1},
		{"a", "b", -1},
		{"a", "z", -1},
		{"a", "ab", -1},
		{"ab", "b", -1},
		{"abz", "b", -1},
		{"abc", "abd", -1},
		{"aXzzz", "aYa", -1},
		{"Z", "a", -1},
		{"10", "9", -1},
		{"\x7f", "\x80", -1},
		{"a", "\xff", -1},
		{"\xc3\xa9", "\xff", -1},
		{full[:api.MaxText-1] + "a", full, -1},
		{full[:api.MaxText-1], full, -1},
		{full, full, 0},
	} {
		got, err := texts.Compare(c.a, c.b)
		wantNumber(t, fmt.Sprintf("Compare %q, %q", brief(c.a), brief(c.b)), got, err, c.want)
		got, err = texts.Compare(c.b, c.a)
		wantNumber(t, fmt.Sprintf("Compare %q, %q", brief(c.b), brief(c.a)), got, err, -c.want)
	}
}

// ErrMuch is told first: at one byte above MaxText, whatever else is wrong, and not at MaxText.
func TestA1MuchComesFirst(t *testing.T) {
	for _, c := range []struct {
		what string
		ask  func() (string, api.Errno)
	}{
		{"Trim", func() (string, api.Errno) { return texts.Trim(over) }},
		{"Trim of blanks", func() (string, api.Errno) { return texts.Trim(strings.Repeat(" ", api.MaxText+1)) }},
		{"Reverse", func() (string, api.Errno) { return texts.Reverse(over) }},
		{"Rotate", func() (string, api.Errno) { return texts.Rotate(over, 1) }},
		{"Dupl by 0", func() (string, api.Errno) { return texts.Dupl(over, 0) }},
		{"Dupl below 0", func() (string, api.Errno) { return texts.Dupl(over, -1) }},
		{"Replace in it", func() (string, api.Errno) { return texts.Replace(over, "a", "b") }},
		{"Replace in it, from nothing", func() (string, api.Errno) { return texts.Replace(over, "", "") }},
		{"Replace from it", func() (string, api.Errno) { return texts.Replace("a", over, "b") }},
		{"Replace to it", func() (string, api.Errno) { return texts.Replace("a", "", over) }},
		{"Replace from it to it", func() (string, api.Errno) { return texts.Replace("a", over, over) }},
		{"Substr", func() (string, api.Errno) { return texts.Substr(over, 1, 1) }},
		{"Substr of what is not there", func() (string, api.Errno) { return texts.Substr(over, 0, -1) }},
		{"Lpad", func() (string, api.Errno) { return texts.Lpad(over, 1, "*") }},
		{"Lpad without fill", func() (string, api.Errno) { return texts.Lpad(over, 1, "") }},
		{"Rpad", func() (string, api.Errno) { return texts.Rpad(over, 1, "*") }},
		{"Rpad without fill", func() (string, api.Errno) { return texts.Rpad(over, 1, "") }},
	} {
		got, err := c.ask()
		wantError(t, c.what, got, err, api.ErrMuch)
	}
}

func TestA1MuchComesFirstOfNumbersAndLists(t *testing.T) {
	for _, c := range []struct {
		what string
		ask  func() (int, api.Errno)
	}{
		{"Compare it", func() (int, api.Errno) { return texts.Compare(over, "a") }},
		{"Compare with it", func() (int, api.Errno) { return texts.Compare("a", over) }},
		{"Compare it with it", func() (int, api.Errno) { return texts.Compare(over, over) }},
		{"Count in it", func() (int, api.Errno) { return texts.Count(over, "a") }},
		{"Count nothing in it", func() (int, api.Errno) { return texts.Count(over, "") }},
		{"Count it", func() (int, api.Errno) { return texts.Count("a", over) }},
	} {
		got, err := c.ask()
		wantNumberError(t, c.what, got, err, api.ErrMuch)
	}
	for _, sign := range []string{",", "", ",,"} {
		got, err := texts.Split(over, sign)
		if err != api.ErrMuch || len(got) != 0 {
			t.Errorf("Split at %q: %d pieces, error %d; want none, ErrMuch", sign, len(got), err)
		}
	}
}
