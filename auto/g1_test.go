package auto_test

import (
	"fmt"
	"math"
	"testing"

	"scanfail/api"
	"scanfail/auto"
)

func wantGood(t *testing.T, what string, a api.Auto) {
	t.Helper()
	if err := auto.Wrong(a); err != api.OK {
		t.Errorf("Wrong of %s: error %d; want none", what, err)
	}
}

func TestG1Good(t *testing.T) {
	wantGood(t, "one that accepts nothing", nothing)
	wantGood(t, "one that accepts all", anything)
	wantGood(t, "one with MaxStates states", ring(api.MaxStates, 0))
	wantGood(t, "one with states that nobody comes to", automaton(one, "100", []int{0}, []int{2}, []int{1}))
	wantGood(t, "one with classes that no byte has", automaton(one, "1", []int{0, 0, 0}))
	wantGood(t, "one with more classes than bytes", automaton(one, "1", row(1000, 0)))
	a := automaton(one, "10", row(256, 0), row(256, 1))
	for b := range a.Class {
		a.Class[b] = 255 - b
	}
	wantGood(t, "one with a class for each byte", a)
	wantGood(t, "one of a pattern", made("ARBNO('ab') LEN(3)"))
}

func TestG1HowMany(t *testing.T) {
	wantWrong(t, "noughts", api.Auto{}, api.ErrMany)
	wantWrong(t, "one without states, but Ends", api.Auto{Ends: []bool{true}}, api.ErrMany)
	wantWrong(t, "one with lists without entries", api.Auto{Next: [][]int{}, Ends: []bool{}}, api.ErrMany)
	wantWrong(t, "one without Ends", api.Auto{Next: [][]int{{0}}}, api.ErrMany)
	for _, states := range []int{1, 2, 3, api.MaxStates} {
		for _, ends := range []int{0, states - 1, states + 1, api.MaxStates + 1} {
			a := ring(states, 0)
			a.Ends = make([]bool, ends)
			wantWrong(t, fmt.Sprintf("one with %d states and %d Ends", states, ends), a, api.ErrMany)
		}
	}
	wantWrong(t, "one with MaxStates + 1 states", ring(api.MaxStates+1, 0), api.ErrMany)
	wantWrong(t, "one with 2 * MaxStates states", ring(2*api.MaxStates, 0), api.ErrMany)
}

// Too many, or too few, is told ahead of all else.
func TestG1HowManyFirst(t *testing.T) {
	bad := [][]int{{0, 7}, {-1}, {}}
	for _, ends := range []int{0, 2, 4} {
		a := api.Auto{Next: bad, Ends: make([]bool, ends)}
		a.Class[3] = -1
		wantWrong(t, "one with much that is wrong", a, api.ErrMany)
	}
	a := ring(api.MaxStates+1, 0)
	a.Next[0][0], a.Next[1] = -1, nil
	wantWrong(t, "one with too many states, and more that is wrong", a, api.ErrMany)
	a.Class[3] = -1
	wantWrong(t, "one with too many states, and a class", a, api.ErrMany)
}

func TestG1Fit(t *testing.T) {
	wantWrong(t, "one with too few Next", automaton(one, "00", []int{0, 1}, []int{0}), api.ErrFit)
	wantWrong(t, "one with too many Next", automaton(one, "00", []int{0}, []int{0, 1}), api.ErrFit)
	wantWrong(t, "one with no Next at its second state", automaton(one, "00", []int{0}, nil), api.ErrFit)
	wantWrong(t, "one with no Next at its first state alone", automaton(one, "00", nil, []int{0}), api.ErrFit)
	wantWrong(t, "one with too few Next at its last state", automaton(one, "000", []int{0, 0}, []int{2, 1}, []int{1}), api.ErrFit)
	for _, s := range []int{1, 100, api.MaxStates - 1} {
		for _, n := range []int{0, 2, 300} {
			a := ring(api.MaxStates, 0)
			a.Next[s] = row(n, 0)
			wantWrong(t, fmt.Sprintf("one with %d Next at state %d", n, s), a, api.ErrFit)
		}
	}
}

func TestG1NoState(t *testing.T) {
	for _, bad := range []int{-1, 3, 4, api.MaxStates, math.MaxInt, math.MinInt} {
		for s := range 3 {
			for class := range 3 {
				a := automaton(one, "010", []int{0, 1, 2}, []int{2, 2, 2}, []int{0, 0, 0})
				a.Next[s][class] = bad
				wantWrong(t, fmt.Sprintf("one with Next %d at state %d, class %d", bad, s, class), a, api.ErrRange)
			}
		}
	}
	a := ring(api.MaxStates, 0)
	a.Next[api.MaxStates-1][0] = api.MaxStates
	wantWrong(t, "one that leads to state MaxStates", a, api.ErrRange)
}

// State by state: how many Next it has, and then which.
func TestG1StateByState(t *testing.T) {
	wantWrong(t, "no state ahead of a state that does not fit", automaton(one, "00", []int{2, 0}, []int{0}), api.ErrRange)
	wantWrong(t, "no state below 0 ahead of a state that does not fit", automaton(one, "000", []int{1}, []int{-1}, []int{}), api.ErrRange)
	wantWrong(t, "a state that does not fit ahead of no state", automaton(one, "000", []int{1}, []int{}, []int{-1}), api.ErrFit)
	wantWrong(t, "a state that does not fit, and no state in it", automaton(one, "00", []int{1}, []int{1, 2}), api.ErrFit)
	wantWrong(t, "a state that does not fit, and no state in it ahead", automaton(one, "00", []int{1, 1}, []int{-1}), api.ErrFit)
	wantWrong(t, "no state, and then one that does not fit, at the end", automaton(one, "0000", []int{1}, []int{2}, []int{4}, []int{0, 0}), api.ErrRange)
}

func TestG1Classes(t *testing.T) {
	for _, classes := range []int{1, 2, 5, 256} {
		for _, b := range []int{0, 1, 97, 127, 128, 255} {
			for _, bad := range []int{-1, classes, classes + 1, 256, math.MaxInt, math.MinInt} {
				if bad >= 0 && bad < classes {
					continue
				}
				a := automaton(one, "10", row(classes, 1), row(classes, 0))
				a.Class[b] = bad
				wantWrong(t, fmt.Sprintf("one with class %d of %d at byte %d", bad, classes, b), a, api.ErrRange)
			}
			a := automaton(one, "10", row(classes, 1), row(classes, 0))
			a.Class[b] = classes - 1
			wantGood(t, "one with a byte of the last class", a)
		}
	}
	wantWrong(t, "one with no Next at all", automaton(one, "1", []int{}), api.ErrRange)
	wantWrong(t, "one with nil for Next", automaton(one, "1", nil), api.ErrRange)
	wantWrong(t, "some with no Next at all", automaton(one, "110", nil, []int{}, nil), api.ErrRange)
}

// What is wrong with states is told ahead of classes.
func TestG1ClassesLast(t *testing.T) {
	a := automaton(one, "00", []int{0}, []int{})
	a.Class[0] = 5
	wantWrong(t, "a state that does not fit, and a class", a, api.ErrFit)
	a = automaton(one, "00", nil, []int{0})
	wantWrong(t, "a state that does not fit with none, and classes", a, api.ErrFit)
}

// Of two what is wrong with the first one is told first, and both ahead of how many states they have together.
func TestG1FirstOneFirst(t *testing.T) {
	many := api.Auto{}
	fit := automaton(one, "00", []int{0}, nil)
	below := automaton(one, "0", []int{-1})
	great := ring(api.MaxStates, 0)
	great.Next[api.MaxStates-1] = []int{0, 0}
	bad := []struct {
		a   api.Auto
		err api.Errno
	}{{many, api.ErrMany}, {fit, api.ErrFit}, {below, api.ErrRange}, {great, api.ErrFit}}
	for i, x := range bad {
		for j, y := range bad {
			for name, f := range map[string]func(a, b api.Auto) (api.Auto, api.Errno){"Both": auto.Both, "Either": auto.Either} {
				a, err := f(x.a, y.a)
				wantNoAuto(t, fmt.Sprintf("%s of wrong ones, %d and %d", name, i, j), a, err, x.err)
				a, err = f(ring(api.MaxStates, 0), y.a)
				wantNoAuto(t, fmt.Sprintf("%s of a great one and a wrong one, %d", name, j), a, err, y.err)
			}
		}
	}
}

// It begins at state 0, and a byte leads to what its class says.
func TestG1Accepts(t *testing.T) {
	a := automaton([]string{"^ab", "b", "a"}, "010", []int{2, 0, 1}, []int{1, 2, 0}, []int{2, 2, 2})
	for _, s := range []string{"a", "ba", "bba", "ac", "ac\x00\xffc", "aaa", "acaba", "aabbac"} {
		wantAccepts(t, a, s, true)
	}
	for _, s := range []string{"", "b", "bb", "aa", "ab", "c", "ca", "\x00", "\xff", "aca", "acab", "acabab", "abaaa"} {
		wantAccepts(t, a, s, false)
	}
	wantAccepts(t, anything, "", true)
	wantAccepts(t, anything, over, true)
	wantAccepts(t, nothing, "", false)
	wantAccepts(t, nothing, over, false)
	for n := range 9 {
		wantAccepts(t, ring(api.MaxStates, n), over, n == 1) // over leads 8 times around, and one state on
	}
}
