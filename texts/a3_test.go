package texts_test

import (
	"fmt"
	"slices"
	"strings"
	"testing"

	"scanfail/api"
	"scanfail/texts"
)

func TestA3Split(t *testing.T) {
	for _, c := range []struct {
		text, sign string
		want       []string
	}{
		{"", ",", []string{""}},
		{"a", ",", []string{"a"}},
		{",", ",", []string{"", ""}},
		{",,", ",", []string{"", "", ""}},
		{"a,b", ",", []string{"a", "b"}},
		{"a,", ",", []string{"a", ""}},
		{",a", ",", []string{"", "a"}},
		{"a,,b", ",", []string{"a", "", "b"}},
		{"one two  three", " ", []string{"one", "two", "", "three"}},
		{"banana", "a", []string{"b", "n", "n", ""}},
		{"a\x80b", "\x80", []string{"a", "b"}},
		{"\xc3\xa9", "\xa9", []string{"\xc3", ""}},
		{"a\x00\x00", "\x00", []string{"a", "", ""}},
		{full, "c", []string{full}},
	} {
		got, err := texts.Split(c.text, c.sign)
		if err != api.OK || !slices.Equal(got, c.want) {
			t.Errorf("Split %q at %q: %q, error %d; want %q", brief(c.text), c.sign, got, err, c.want)
		}
	}
	got, err := texts.Split(strings.Repeat(",", api.MaxText), ",")
	if err != api.OK || len(got) != api.MaxText+1 {
		t.Errorf("Split of signs alone: %d pieces, error %d; want %d", len(got), err, api.MaxText+1)
	}
}

func TestA3SplitWrong(t *testing.T) {
	for _, c := range []struct{ text, sign string }{
		{"", ""},
		{"a,b", ""},
		{"a,b", ",b"},
		{"aéb", "é"},
		{"a,b", over}, // sign is not one of the texts that may be too long
		{full, ""},
	} {
		got, err := texts.Split(c.text, c.sign)
		if err != api.ErrFit || len(got) != 0 {
			t.Errorf("Split %q at %q: %q, error %d; want none, ErrFit", brief(c.text), brief(c.sign), got, err)
		}
	}
}

func TestA3Join(t *testing.T) {
	for _, c := range []struct {
		l    []string
		sign string
		want string
	}{
		{nil, ",", ""},
		{[]string{}, ",", ""},
		{[]string{""}, ",", ""},
		{[]string{"a"}, ",", "a"},
		{[]string{"", ""}, ",", ","},
		{[]string{"a", "b"}, ",", "a,b"},
		{[]string{"a", "b", "c"}, " ", "a b c"},
		{[]string{"", "a", "", "b", ""}, "-", "-a--b-"},
		{[]string{",", ","}, ",", ",,,"},
		{[]string{"\x80", "\xff"}, "\xfe", "\x80\xfe\xff"},
		{[]string{full}, ",", full},
		{[]string{full[1:], ""}, ",", full[1:] + ","},
		{[]string{"", full[1:]}, ",", "," + full[1:]},
		{[]string{full[:40000], full[:api.MaxText-40001]}, ",", full[:40000] + "," + full[:api.MaxText-40001]},
		{make([]string, api.MaxText+1), ",", strings.Repeat(",", api.MaxText)},
	} {
		got, err := texts.Join(c.l, c.sign)
		wantText(t, fmt.Sprintf("Join %d texts with %q", len(c.l), c.sign), got, err, c.want)
	}
}

func TestA3JoinWrong(t *testing.T) {
	for _, c := range []struct {
		what string
		l    []string
		sign string
		want api.Errno
	}{
		{"nothing, no sign", nil, "", api.ErrFit},
		{"nothing, two bytes", nil, ",,", api.ErrFit},
		{"one, no sign", []string{"a"}, "", api.ErrFit},
		{"two, two bytes", []string{"a", "b"}, ", ", api.ErrFit},
		{"two, a long sign", []string{"a", "b"}, over, api.ErrFit},
		{"ErrFit stands ahead of ErrMuch", []string{over}, "", api.ErrFit},
		{"one that is too long", []string{over}, ",", api.ErrMuch},
		{"too long by the sign", []string{full, ""}, ",", api.ErrMuch},
		{"too long by the sign, the other way", []string{"", full}, ",", api.ErrMuch},
		{"too long together", []string{full[:40000], full[:api.MaxText-40000]}, ",", api.ErrMuch},
		{"too long by a byte of the last", []string{full[2:], "xy"}, ",", api.ErrMuch},
		{"too many signs", make([]string, api.MaxText+2), ",", api.ErrMuch},
	} {
		got, err := texts.Join(c.l, c.sign)
		wantError(t, "Join "+c.what, got, err, c.want)
	}
}

// What was split is put together again, and the pieces are as many as the signs and one.
func TestA3SplitAndJoin(t *testing.T) {
	for _, s := range small("a,", 7) {
		pieces, err := texts.Split(s, ",")
		if err != api.OK || len(pieces) != strings.Count(s, ",")+1 {
			t.Errorf("Split %q: %q, error %d", s, pieces, err)
		}
		for _, p := range pieces {
			if strings.Contains(p, ",") {
				t.Errorf("Split %q: a sign is left in %q", s, p)
			}
		}
		got, err := texts.Join(pieces, ",")
		wantText(t, fmt.Sprintf("Join %q", pieces), got, err, s)
	}
}

func TestA3Count(t *testing.T) {
	for _, c := range []struct {
		text, part string
		want       int
	}{
		{"", "a", 0},
		{"a", "a", 1},
		{"a", "aa", 0},
		{"banana", "a", 3},
		{"banana", "an", 2},
		{"banana", "ana", 1},
		{"banana", "banana", 1},
		{"banana", "x", 0},
		{"aaaa", "aa", 2},
		{"aaaaa", "aa", 2},
		{"aaaaaa", "aaa", 2},
		{"abababa", "aba", 2},
		{"aabaa", "ab", 1},
		{"\x80\xff\x80", "\x80", 2},
		{"é", "\xa9", 1},
		{full, "ab", api.MaxText / 2},
		{full, "aba", api.MaxText / 4},
		{full, full, 1},
		{"a", full, 0},
		{strings.Repeat("a", api.MaxText), "a", api.MaxText},
		{strings.Repeat("a", api.MaxText), strings.Repeat("a", api.MaxText/2) + "b", 0},
	} {
		got, err := texts.Count(c.text, c.part)
		wantNumber(t, fmt.Sprintf("Count %q in %q", brief(c.part), brief(c.text)), got, err, c.want)
	}
}

// Looked for place by place: the slow way to say the same.
func TestA3CountPlaceByPlace(t *testing.T) {
	for _, s := range small("ab", 7) {
		for _, part := range small("ab", 3)[1:] {
			want := 0
			for i := 0; i+len(part) <= len(s); {
				if s[i:i+len(part)] == part {
					want++
					i += len(part)
				} else {
					i++
				}
			}
			got, err := texts.Count(s, part)
			wantNumber(t, fmt.Sprintf("Count %q in %q", part, s), got, err, want)
		}
	}
}

func TestA3CountWrong(t *testing.T) {
	for _, s := range []string{"", "a", full} {
		got, err := texts.Count(s, "")
		wantNumberError(t, fmt.Sprintf("Count nothing in %q", brief(s)), got, err, api.ErrFit)
	}
}
