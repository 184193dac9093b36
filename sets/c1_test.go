package sets_test

import (
	"fmt"
	"strings"
	"testing"

	"scanfail/api"
	"scanfail/sets"
)

func TestC1Of(t *testing.T) {
	for _, c := range []struct {
		text string
		want api.Set
	}{
		{"", none},
		{"a", api.Set{0, 1 << 33, 0, 0}},
		{"abc", api.Set{0, 7 << 33, 0, 0}},
		{"cabbac", api.Set{0, 7 << 33, 0, 0}},
		{"a-c", api.Set{1 << 45, 1<<33 | 1<<35, 0, 0}}, // nothing stands for a run here
		{"^a", api.Set{0, 1<<30 | 1<<33, 0, 0}},
		{`\61`, api.Set{1<<49 | 1<<54, 1 << 28, 0, 0}},
		{"\x00", api.Set{1, 0, 0, 0}},
		{"\x3f", api.Set{1 << 63, 0, 0, 0}},
		{"\x40", api.Set{0, 1, 0, 0}},
		{"\x7f", api.Set{0, 1 << 63, 0, 0}},
		{"\x80", api.Set{0, 0, 1, 0}},
		{"\xbf", api.Set{0, 0, 1 << 63, 0}},
		{"\xc0", api.Set{0, 0, 0, 1}},
		{"\xff", api.Set{0, 0, 0, 1 << 63}},
		{"\x00\x3f\x40\x7f\x80\xff", api.Set{1<<63 | 1, 1<<63 | 1, 1, 1 << 63}},
		{"é", api.Set{0, 0, 1 << 41, 1 << 3}}, // its two bytes
		{strings.Repeat("a", api.MaxText+1), api.Set{0, 1 << 33, 0, 0}},
		{strings.Repeat("a", api.MaxText+1) + "b", api.Set{0, 3 << 33, 0, 0}}, // no text is too long for it
	} {
		wantSet(t, fmt.Sprintf("Of %q", brief(c.text)), sets.Of(c.text), c.want)
	}
}

func TestC1OfEachByte(t *testing.T) {
	for b := range 256 {
		wantSet(t, fmt.Sprintf("Of byte %d", b), sets.Of(string([]byte{byte(b)})), run(b, b))
	}
}

func TestC1Has(t *testing.T) {
	for _, s := range manySets() {
		m := modelOf(s)
		for b := range 256 {
			if got := sets.Has(s, byte(b)); got != m[b] {
				t.Errorf("Has %x, %d: %t; want %t", s, b, got, m[b])
			}
		}
	}
}

func TestC1Text(t *testing.T) {
	for _, c := range []struct {
		s    api.Set
		want string
	}{
		{none, ""},
		{sets.Of("cab"), "abc"},
		{sets.Of("z-a-z"), "-az"},
		{api.Set{1<<63 | 1, 1<<63 | 1, 1, 1 << 63}, "\x00\x3f\x40\x7f\x80\xff"},
		{api.Set{0, 3, 1 << 2, 0}, "@A\x82"},
	} {
		if got := sets.Text(c.s); got != c.want {
			t.Errorf("Text %x: %q; want %q", c.s, got, c.want)
		}
	}
}

// The bytes of all sets, rising, and how many; and they are the set of that text.
func TestC1TextAndSize(t *testing.T) {
	for _, s := range manySets() {
		var want []byte
		for b, in := range modelOf(s) {
			if in {
				want = append(want, byte(b))
			}
		}
		got := sets.Text(s)
		if got != string(want) {
			t.Errorf("Text %x: %q; want %q", s, got, want)
		}
		if n := sets.Size(s); n != len(want) {
			t.Errorf("Size %x: %d; want %d", s, n, len(want))
		}
		wantSet(t, fmt.Sprintf("Of the text of %x", s), sets.Of(got), s)
	}
}

func TestC1Size(t *testing.T) {
	for _, c := range []struct {
		s    api.Set
		want int
	}{
		{none, 0},
		{all, 256},
		{api.Set{1, 0, 0, 0}, 1},
		{api.Set{0, 0, 0, 1 << 63}, 1},
		{api.Set{1<<63 | 1, 1<<63 | 1, 1<<63 | 1, 1<<63 | 1}, 8},
		{sets.Of("banana"), 3},
	} {
		if got := sets.Size(c.s); got != c.want {
			t.Errorf("Size %x: %d; want %d", c.s, got, c.want)
		}
	}
}

func TestC1OfTwo(t *testing.T) {
	ab, bc := sets.Of("ab"), sets.Of("bc")
	wantSet(t, "Union", sets.Union(ab, bc), sets.Of("abc"))
	wantSet(t, "Meet", sets.Meet(ab, bc), sets.Of("b"))
	wantSet(t, "Less", sets.Less(ab, bc), sets.Of("a"))
	wantSet(t, "Less, the other way", sets.Less(bc, ab), sets.Of("c"))
	wantSet(t, "Not of none", sets.Not(none), all)
	wantSet(t, "Not of all", sets.Not(all), none)
	wantSet(t, "Not", sets.Not(ab), api.Set{^uint64(0), ^uint64(3 << 33), ^uint64(0), ^uint64(0)})
}

// Of pairs of sets, and of each byte: whether it is in what comes hangs on whether it is in the two.
func TestC1OfTwoByteByByte(t *testing.T) {
	l := manySets()
	for _, s := range l {
		byteByByte(t, none, s)
		byteByByte(t, all, s)
	}
	// Not each beside each, which takes long: every ninth one beside all of them.
	for i := 0; i < len(l); i += 9 {
		for _, b := range l {
			byteByByte(t, l[i], b)
		}
	}
}

func byteByByte(t *testing.T, a, b api.Set) {
	t.Helper()
	x, y := modelOf(a), modelOf(b)
	union, meet, less, not := modelOf(sets.Union(a, b)), modelOf(sets.Meet(a, b)), modelOf(sets.Less(a, b)), modelOf(sets.Not(b))
	for i := range x {
		if union[i] != (x[i] || y[i]) || meet[i] != (x[i] && y[i]) || less[i] != (x[i] && !y[i]) || not[i] != !y[i] {
			t.Fatalf("%x and %x, byte %d: union %t, meet %t, less %t, not of the second %t", a, b, i, union[i], meet[i], less[i], not[i])
		}
	}
}
