package auto

import "scanfail/api"

// kinds are classes of bytes that lead alike, and the least byte of each.
type kinds struct {
	of    [256]int
	least []byte
}

// sorted puts bytes of the same kind into one class; classes are numbered in the order of their least bytes.
func sorted[K comparable](kind func(c byte) K) kinds {
	var out kinds
	number := map[K]int{}
	for c := range out.of {
		k := kind(byte(c))
		n, known := number[k]
		if !known {
			n = len(out.least)
			number[k] = n
			out.least = append(out.least, byte(c))
		}
		out.of[c] = n
	}
	return out
}

// reached is the automaton of the states of any kind to which one comes from first by steps, numbered in the order in which one does.
func reached[S comparable](first S, bytes kinds, step func(s S, c byte) S, ends func(s S) bool) api.Auto {
	out := api.Auto{Class: bytes.of}
	states := []S{first}
	number := map[S]int{first: 0}
	for i := 0; i < len(states); i++ {
		row := make([]int, len(bytes.least))
		for class, c := range bytes.least {
			s := step(states[i], c)
			n, known := number[s]
			if !known {
				n = len(states)
				number[s] = n
				states = append(states, s)
			}
			row[class] = n
		}
		out.Next = append(out.Next, row)
		out.Ends = append(out.Ends, ends(states[i]))
	}
	return out
}

// least is the least automaton that accepts what a does, to each of whose states some text leads.
func least(a api.Auto) api.Auto {
	p := alike(a)
	kind := func(c byte) int { return a.Class[c] }
	step := func(part int, c byte) int { return p.part[leads(&a, p.some(part), c)] }
	end := func(part int) bool { return a.Ends[p.some(part)] }
	return narrowed(reached(p.part[0], sorted(kind), step, end))
}

// narrowed is a with one class for all bytes that lead to the same state from each.
func narrowed(a api.Auto) api.Auto {
	bytes := sorted(func(c byte) string { return column(a, c) })
	for s, row := range a.Next {
		narrow := make([]int, len(bytes.least))
		for class, c := range bytes.least {
			narrow[class] = row[a.Class[c]]
		}
		a.Next[s] = narrow
	}
	a.Class = bytes.of
	return a
}

// column tells where a byte leads, from state to state, in two bytes each: MaxStates needs no more.
func column(a api.Auto, c byte) string {
	out := make([]byte, 0, 2*len(a.Next))
	for s := range a.Next {
		to := leads(&a, s, c)
		out = append(out, byte(to>>8), byte(to))
	}
	return string(out)
}
