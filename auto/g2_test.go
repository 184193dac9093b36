package auto_test

import (
	"slices"
	"testing"

	"scanfail/api"
	"scanfail/auto"
)

// not is what a does not accept.
func not(a api.Auto) api.Auto {
	for s := range a.Ends {
		a.Ends[s] = !a.Ends[s]
	}
	return a
}

// wantMadeLeast asks each function that makes the least automaton of one.
func wantMadeLeast(t *testing.T, a, want api.Auto) {
	t.Helper()
	wantLeast(t, want)
	wantAllMake(t, a, want)
}

// wantAllMake does so where want is too great to be asked by the words of the promise.
func wantAllMake(t *testing.T, a, want api.Auto) {
	t.Helper()
	b, err := auto.Both(a, anything)
	wantAuto(t, "Both of "+tellAuto(a)+" and all", b, err, want)
	b, err = auto.Both(anything, a)
	wantAuto(t, "Both of all and "+tellAuto(a), b, err, want)
	b, err = auto.Either(a, nothing)
	wantAuto(t, "Either of "+tellAuto(a)+" and nothing", b, err, want)
	b, err = auto.Either(nothing, a)
	wantAuto(t, "Either of nothing and "+tellAuto(a), b, err, want)
	b, err = auto.Not(a)
	wantAuto(t, "Not of "+tellAuto(a), b, err, not(copyAuto(want)))
	b, err = auto.Not(b)
	wantAuto(t, "Not of Not of "+tellAuto(a), b, err, want)
}

func TestG2Stays(t *testing.T) {
	for _, a := range []api.Auto{
		nothing, anything, ring(2, 0), ring(2, 1), ring(7, 3), ring(100, 99),
		automaton(one, "10", []int{1}, []int{1}),
		automaton([]string{"^a", "a"}, "001", []int{1, 2}, []int{1, 1}, []int{1, 1}),
	} {
		wantMadeLeast(t, a, a)
	}
}

// States that nobody comes to are not there any more.
func TestG2Reached(t *testing.T) {
	wantMadeLeast(t, automaton(one, "01", []int{0}, []int{1}), nothing)
	wantMadeLeast(t, automaton(one, "10", []int{0}, []int{0}), anything)
	wantMadeLeast(t, automaton(one, "0111", []int{0}, []int{2}, []int{3}, []int{0}), nothing)
	wantMadeLeast(t, automaton(one, "00010", []int{3}, []int{0}, []int{1}, []int{0}, []int{2}), automaton(one, "01", []int{1}, []int{0}))
	// By a class that no byte has nobody comes anywhere.
	wantMadeLeast(t, automaton(one, "01", []int{0, 1}, []int{1, 1}), nothing)
	wantMadeLeast(t, automaton([]string{"a", "", "^a"}, "010", []int{2, 1, 0}, []int{1, 1, 1}, []int{2, 1, 2}), nothing)
}

// States from which the same texts are accepted are one.
func TestG2Alike(t *testing.T) {
	wantMadeLeast(t, automaton(one, "00", []int{1}, []int{0}), nothing)
	wantMadeLeast(t, automaton(one, "111", []int{1}, []int{2}, []int{1}), anything)
	wantMadeLeast(t, automaton(one, "1010", []int{1}, []int{2}, []int{3}, []int{0}), ring(2, 0))
	wantMadeLeast(t, automaton(one, "100100", []int{1}, []int{2}, []int{3}, []int{4}, []int{5}, []int{0}), ring(3, 0))
	wantMadeLeast(t, automaton(one, "100110", []int{1}, []int{2}, []int{3}, []int{4}, []int{5}, []int{0}), automaton(one, "100110", []int{1}, []int{2}, []int{3}, []int{4}, []int{5}, []int{0}))
	// The two states of which the second one only differs far away: a chain that ends, and one that does not.
	wantMadeLeast(t, automaton([]string{"^a", "a"}, "0000001", []int{1, 3}, []int{2, 2}, []int{5, 5}, []int{4, 4}, []int{6, 6}, []int{5, 5}, []int{5, 5}),
		automaton([]string{"^a", "a"}, "00001", []int{1, 2}, []int{1, 1}, []int{3, 3}, []int{4, 4}, []int{1, 1}))
	// Two ends behind different bytes become one.
	wantMadeLeast(t, automaton([]string{"^ab", "a", "b"}, "0110", []int{3, 1, 2}, []int{3, 3, 3}, []int{3, 3, 3}, []int{3, 3, 3}),
		automaton([]string{"^ab", "ab"}, "001", []int{1, 2}, []int{1, 1}, []int{1, 1}))
}

// States are numbered in the order in which one comes to them, state by state, byte by byte.
func TestG2Numbers(t *testing.T) {
	// The classes' numbers do not count, the bytes do.
	wantMadeLeast(t, automaton([]string{"b", "a", "^ab"}, "0010", []int{1, 2, 3}, []int{2, 3, 3}, []int{3, 3, 3}, []int{3, 3, 3}),
		automaton([]string{"^ab", "a", "b"}, "0010", []int{1, 2, 3}, []int{1, 1, 1}, []int{1, 1, 1}, []int{1, 1, 2}))
	wantMadeLeast(t, automaton([]string{"\\ff", "\\00", "\\01-\\fe"}, "0001", []int{1, 2, 3}, []int{1, 1, 2}, []int{2, 2, 1}, []int{1, 2, 0}),
		automaton([]string{"\\00\\ff", "\\01-\\fe"}, "001", []int{1, 2}, []int{1, 1}, []int{1, 0}))
	// All states of one come to ahead of those of the next one.
	wantMadeLeast(t, automaton([]string{"^ab", "a", "b"}, "000001", []int{5, 4, 3}, []int{1, 1, 1}, []int{2, 5, 1}, []int{2, 2, 2}, []int{1, 4, 5}, []int{5, 5, 3}),
		automaton([]string{"^ab", "a", "b"}, "010000", []int{1, 2, 3}, []int{1, 1, 3}, []int{4, 2, 1}, []int{5, 5, 5}, []int{4, 4, 4}, []int{5, 1, 4}))
	reverse := api.Auto{Next: make([][]int, 50), Ends: make([]bool, 50)}
	reverse.Ends[1] = true
	for s := range 50 {
		reverse.Next[s] = []int{(s + 49) % 50}
	}
	wantMadeLeast(t, reverse, ring(50, 49))
}

// Bytes are of one class just if they lead to the same state from each.
func TestG2Classes(t *testing.T) {
	wantMadeLeast(t, automaton([]string{"^a-c", "a", "b", "c"}, "10", []int{0, 1, 0, 1}, []int{1, 0, 1, 0}), automaton([]string{"^ac", "ac"}, "10", []int{0, 1}, []int{1, 0}))
	wantMadeLeast(t, automaton([]string{"^a-c", "a", "b", "c"}, "1", []int{0, 0, 0, 0}), anything)
	// They differ at the last state alone.
	wantMadeLeast(t, automaton([]string{"^ab", "a", "b"}, "001", []int{1, 1, 1}, []int{2, 2, 2}, []int{0, 0, 1}), automaton([]string{"^b", "b"}, "001", []int{1, 1}, []int{2, 2}, []int{0, 1}))
	// They differ at states that nobody comes to, or lead to states that become one.
	wantMadeLeast(t, automaton([]string{"^a", "a"}, "10", []int{0, 0}, []int{0, 1}), anything)
	wantMadeLeast(t, automaton([]string{"^a", "a"}, "100", []int{1, 2}, []int{0, 0}, []int{0, 0}), ring(2, 0))
	// A class for each byte, whichever numbers they had.
	want := api.Auto{Next: [][]int{nil}, Ends: []bool{false}}
	given := api.Auto{Next: [][]int{nil}, Ends: []bool{false}}
	for b := range 256 {
		want.Class[b], given.Class[b] = b, b*77%256
		want.Next[0] = append(want.Next[0], b+1)
		want.Next = append(want.Next, row(256, b))
		want.Ends = append(want.Ends, b == 255)
	}
	for s, row := range want.Next {
		mixed := make([]int, 256)
		for b, to := range row {
			mixed[b*77%256] = to
		}
		if s > 0 {
			given.Next, given.Ends = append(given.Next, mixed), append(given.Ends, want.Ends[s])
		} else {
			given.Next[0] = mixed
		}
	}
	wantMadeLeast(t, given, want)
	if n := len(want.Next[0]); n != 256 || !slices.Equal(want.Class[:], upTo(256)) {
		t.Errorf("the test's automaton has %d classes", n)
	}
}

// Bytes that lead to different states, however far from each other, are of two classes, were it from one state alone.
func TestG2FarStates(t *testing.T) {
	for _, far := range []int{1, 2, 128, 255, 256, 257, 512, 1024, 2048, 4096, 7936} {
		a := ring(far+10, 5)
		a.Class['a'], a.Class['b'] = 1, 2
		for s, row := range a.Next {
			a.Next[s] = append(row, row[0], row[0])
		}
		a.Next[far+9] = []int{0, 3, 3 + far}
		wantAllMake(t, a, a)
	}
}

// All of it at once, where there is most of it.
func TestG2Great(t *testing.T) {
	great := ring(api.MaxStates, 5)
	wantAllMake(t, great, great)
	for s := range great.Next {
		great.Ends[s] = s%64 == 63
	}
	wantMadeLeast(t, great, ring(64, 63))
	chain := api.Auto{Next: make([][]int, api.MaxStates), Ends: make([]bool, api.MaxStates)}
	for b := range chain.Class {
		chain.Class[b] = b
	}
	for s := range chain.Next {
		chain.Next[s] = row(256, min(s+1, api.MaxStates-1))
		chain.Ends[s] = s == api.MaxStates-2
	}
	want := api.Auto{Ends: chain.Ends}
	for s := range chain.Next {
		want.Next = append(want.Next, chain.Next[s][:1])
	}
	got, err := auto.Either(chain, nothing)
	wantAuto(t, "Either of a chain and nothing", got, err, want)
	got, err = auto.Both(got, want)
	wantNoAuto(t, "Both of two chains", got, err, api.ErrMuch)
}
