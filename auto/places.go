package auto

import (
	"scanfail/api"
	"scanfail/sets"
)

// regular tells whether p has only nodes of which automata are made.
func regular(p api.Pat) bool {
	switch p.Kind {
	case api.PatLit, api.PatLen, api.PatAny, api.PatNotAny, api.PatArb, api.PatFail, api.PatCat, api.PatAlt, api.PatArbno:
	default:
		return false
	}
	for _, kid := range p.Kids {
		if !regular(kid) {
			return false
		}
	}
	return true
}

// places is how many places p has.
func places(p api.Pat) int {
	n := 0
	switch p.Kind {
	case api.PatLit:
		n = len(p.Text)
	case api.PatLen:
		n = p.N
	case api.PatAny, api.PatNotAny, api.PatArb:
		n = 1
	}
	for _, kid := range p.Kids {
		n += places(kid)
	}
	return n
}

// spots is a set of a pattern's places: bit 1 is its first one, and so on; bit 0 is the beginning, where no byte has been taken yet.
type spots uint16

const beginning spots = 1

// piece is what is known of how the bytes of a part of a pattern are taken.
type piece struct {
	null        bool  // whether it matches nothing at all
	first, last spots // where its first byte may be taken, where its last one
}

// maker goes through a pattern and numbers its places.
type maker struct {
	count  int                      // of the places so far
	takes  [256]spots               // of each byte: the places that take it
	behind [api.MaxPlaces + 1]spots // of each place: where the next byte may be taken
}

// ofPattern is an automaton of the texts that p matches whole: its states are sets of places at which the byte just taken may stand.
func ofPattern(p api.Pat) api.Auto {
	var m maker
	whole := m.piece(p)
	m.behind[0] = whole.first
	ends := whole.last
	if whole.null {
		ends |= beginning
	}
	kind := func(c byte) spots { return m.takes[c] }
	step := func(s spots, c byte) spots { return m.next(s) & m.takes[c] }
	return reached(beginning, sorted(kind), step, func(s spots) bool { return s&ends != 0 })
}

// next is where a byte may be taken behind one of some places.
func (m *maker) next(s spots) spots {
	var out spots
	for i, next := range m.behind {
		if s>>i&1 == 1 {
			out |= next
		}
	}
	return out
}

// piece goes through p, whose places come behind all that have been numbered.
func (m *maker) piece(p api.Pat) piece {
	switch p.Kind {
	case api.PatLit:
		out := piece{null: true}
		for i := range len(p.Text) {
			out = m.joined(out, m.place(sets.Of(p.Text[i:i+1])))
		}
		return out
	case api.PatLen:
		out := piece{null: true}
		for range p.N {
			out = m.joined(out, m.place(sets.Not(api.Set{})))
		}
		return out
	case api.PatAny:
		return m.place(sets.Of(p.Text))
	case api.PatNotAny:
		return m.place(sets.Not(sets.Of(p.Text)))
	case api.PatArb:
		return m.repeated(m.place(sets.Not(api.Set{})))
	case api.PatCat:
		out := piece{null: true}
		for _, kid := range p.Kids {
			out = m.joined(out, m.piece(kid))
		}
		return out
	case api.PatAlt:
		var out piece
		for _, kid := range p.Kids {
			k := m.piece(kid)
			out = piece{out.null || k.null, out.first | k.first, out.last | k.last}
		}
		return out
	case api.PatArbno:
		return m.repeated(m.piece(p.Kids[0]))
	}
	return piece{} // PatFail
}

// place is the next place, which takes a byte of a set.
func (m *maker) place(s api.Set) piece {
	m.count++
	here := spots(1) << m.count
	for c := range m.takes {
		if sets.Has(s, byte(c)) {
			m.takes[c] |= here
		}
	}
	return piece{first: here, last: here}
}

// joined is b behind a.
func (m *maker) joined(a, b piece) piece {
	m.follow(a.last, b.first)
	out := piece{null: a.null && b.null, first: a.first, last: b.last}
	if a.null {
		out.first |= b.first
	}
	if b.null {
		out.last |= a.last
	}
	return out
}

// repeated is a any number of times.
func (m *maker) repeated(a piece) piece {
	m.follow(a.last, a.first)
	a.null = true
	return a
}

// follow notes that behind each of some places a byte may be taken at others.
func (m *maker) follow(ahead, behind spots) {
	for i := range m.behind {
		if ahead>>i&1 == 1 {
			m.behind[i] |= behind
		}
	}
}
