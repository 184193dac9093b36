package auto

import (
	"slices"

	"scanfail/api"
)

// parts are an automaton's states in parts; those of one part stand side by side.
type parts struct {
	states   []int // part by part
	at       []int // of each state: where it stands in states
	part     []int // of each state: its part
	from, to []int // of each part: where it stands in states
	marked   []int // of each part: how many of its states, the first ones, are marked
}

// alike puts states from which the same texts are accepted into one part. (Hopcroft's way: a part by which others are split need not be looked at again as a whole, only the smaller half of it.)
func alike(a api.Auto) *parts {
	p := byEnds(a.Ends)
	back := backwards(a)
	waiting := make([]bool, len(a.Next)) // of each part: whether others are still to be split by it
	var work []int
	for part := range p.from {
		waiting[part] = true
		work = append(work, part)
	}
	for len(work) > 0 {
		by := work[len(work)-1]
		work = work[:len(work)-1]
		waiting[by] = false
		// A copy, as the part may be split by itself.
		members := slices.Clone(p.states[p.from[by]:p.to[by]])
		for _, from := range back {
			for _, part := range p.touch(members, from) {
				whole := waiting[part]
				half := p.split(part)
				if half < 0 {
					continue
				}
				if !whole && p.size(part) < p.size(half) {
					half = part
				}
				waiting[half] = true
				work = append(work, half)
			}
		}
	}
	return p
}

// byEnds parts the states at which a text may end from the others.
func byEnds(ends []bool) *parts {
	n := len(ends)
	p := &parts{states: make([]int, n), at: make([]int, n), part: make([]int, n), from: []int{0}, to: []int{n}, marked: []int{0}}
	for s := range ends {
		p.states[s], p.at[s] = s, s
	}
	for s, end := range ends {
		if end {
			p.mark(s)
		}
	}
	p.split(0)
	return p
}

// origins are the states from which one class of bytes leads to each state: those of state s stand from begin[s] up to begin[s+1].
type origins struct {
	begin  []int
	states []int
}

// backwards are the origins of each class.
func backwards(a api.Auto) []origins {
	n := len(a.Next)
	out := make([]origins, len(a.Next[0]))
	for class := range out {
		begin := make([]int, n+2) // one place on, until all are filled in
		for s := range n {
			begin[a.Next[s][class]+2]++
		}
		for s := range n {
			begin[s+1] += begin[s]
		}
		states := make([]int, n)
		for s := range n {
			to := a.Next[s][class]
			states[begin[to+1]] = s
			begin[to+1]++
		}
		out[class] = origins{begin[:n+1], states}
	}
	return out
}

// touch marks the states from which one comes to members, and tells their parts, each once.
func (p *parts) touch(members []int, from origins) []int {
	var out []int
	for _, to := range members {
		for _, s := range from.states[from.begin[to]:from.begin[to+1]] {
			if p.marked[p.part[s]] == 0 {
				out = append(out, p.part[s])
			}
			p.mark(s)
		}
	}
	return out
}

// mark moves a state to the marked ones of its part; it is not marked yet.
func (p *parts) mark(s int) {
	part := p.part[s]
	i, j := p.at[s], p.from[part]+p.marked[part]
	other := p.states[j]
	p.states[i], p.states[j] = other, s
	p.at[other], p.at[s] = i, j
	p.marked[part]++
}

// split makes a part's marked states a part of their own, and tells its number; none is marked any more. It is -1 if all or none of them were marked.
func (p *parts) split(part int) int {
	n := p.marked[part]
	p.marked[part] = 0
	if n == 0 || n == p.size(part) {
		return -1
	}
	half := len(p.from)
	middle := p.from[part] + n
	p.from = append(p.from, p.from[part])
	p.to = append(p.to, middle)
	p.marked = append(p.marked, 0)
	p.from[part] = middle
	for _, s := range p.states[p.from[half]:middle] {
		p.part[s] = half
	}
	return half
}

func (p *parts) size(part int) int { return p.to[part] - p.from[part] }

// some is one of a part's states.
func (p *parts) some(part int) int { return p.states[p.from[part]] }
