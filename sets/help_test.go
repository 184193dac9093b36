package sets_test

import (
	"fmt"
	"strings"
	"testing"

	"scanfail/api"
	"scanfail/sets"
)

var (
	none = api.Set{}
	all  = api.Set{^uint64(0), ^uint64(0), ^uint64(0), ^uint64(0)}
)

// edges are bytes at which something ends: the words of a set, the bytes, and what stands for itself in a text.
var edges = []byte{0, 1, 31, 32, 33, 44, 45, 46, 62, 63, 64, 65, 91, 92, 93, 94, 95, 126, 127, 128, 129, 191, 192, 193, 254, 255}

// model is a set in the plainest form: a bool a byte.
type model [256]bool

// powers are those of 2 that a word has.
var powers = makePowers()

func makePowers() [64]uint64 {
	out := [64]uint64{1}
	for i := 1; i < len(out); i++ {
		out[i] = 2 * out[i-1]
	}
	return out
}

// modelOf reads a set by the words of C1 alone.
func modelOf(s api.Set) model {
	var m model
	for b := range m {
		m[b] = s[b/64]/powers[b%64]%2 == 1
	}
	return m
}

// run is the set of the bytes from first to last, made of nothing but the words' bits.
func run(first, last int) api.Set {
	var s api.Set
	for b := first; b <= last; b++ {
		s[b/64] |= 1 << (b % 64)
	}
	return s
}

// join is what is in any of the sets.
func join(l ...api.Set) api.Set {
	var out api.Set
	for _, s := range l {
		for i := range out {
			out[i] |= s[i]
		}
	}
	return out
}

// manySets are sets of all kinds: none and all, each byte alone and all but it, runs between edges, every second and third byte, mixed words.
func manySets() []api.Set {
	out := []api.Set{none, all, {1, 0, 0, 1 << 63}, {0, 3, 1 << 2, 0}, {1 << 63, 1, 0, 0}, {0, 1 << 63, 1, 0}, {0, 0, 1 << 63, 1}}
	for b := range 256 {
		out = append(out, run(b, b), join(run(0, b-1), run(b+1, 255)))
	}
	for _, a := range edges {
		for _, b := range edges {
			out = append(out, run(int(a), int(b)))
		}
	}
	for step := 2; step <= 5; step++ {
		var apart api.Set
		for b := 0; b < 256; b += step {
			apart = join(apart, run(b, b))
		}
		out = append(out, apart)
	}
	word := uint64(88172645463325252)
	for range 100 {
		var mixed api.Set
		for i := range mixed {
			word ^= word << 13
			word ^= word >> 7
			word ^= word << 17
			mixed[i] = word
		}
		out = append(out, mixed)
	}
	return out
}

// small are all texts of at most n bytes of the alphabet.
func small(alphabet string, n int) []string {
	out := []string{""}
	last := out
	for range n {
		var next []string
		for _, s := range last {
			for i := range len(alphabet) {
				next = append(next, s+alphabet[i:i+1])
			}
		}
		out = append(out, next...)
		last = next
	}
	return out
}

// written is b as it stands in a text.
func written(b int) string {
	if b < 33 || b > 126 || strings.Contains(`-\^`, string(rune(b))) {
		return sixteens(b)
	}
	return string(rune(b))
}

// sixteens is b by sixteens, even if it could stand for itself.
func sixteens(b int) string { return fmt.Sprintf(`\%02x`, b) }

func brief(s string) string {
	if len(s) > 60 {
		return s[:60] + ".."
	}
	return s
}

func wantSet(t *testing.T, what string, got, want api.Set) {
	t.Helper()
	if got != want {
		t.Errorf("%s: %x; want %x", what, got, want)
	}
}

func wantRead(t *testing.T, text string, want api.Set) {
	t.Helper()
	got, fault := sets.Read(text)
	if fault != (api.Fault{}) || got != want {
		t.Errorf("Read %q: %x, fault %v; want %x, no fault", brief(text), got, fault, want)
	}
}

// wantFault also asks Z4: beside a fault the set is empty.
func wantFault(t *testing.T, text string, err api.Errno, at int) {
	t.Helper()
	got, fault := sets.Read(text)
	if fault != (api.Fault{Err: err, At: at}) || got != none {
		t.Errorf("Read %q: %x, fault %v; want the empty set, fault {%d %d}", brief(text), got, fault, err, at)
	}
}
