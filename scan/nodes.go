package scan

import (
	"strings"

	"scanfail/api"
	"scanfail/sets"
)

// node is a pattern's node as the machine comes to it. Its kids lie side by side among the machine's nodes, from first on up to end.
type node struct {
	kind       int
	text       string
	number     int
	name       string
	rule       int
	first, end int
	set        *api.Set
	from, to   int // a stretch that until has looked through; none, if it ends ahead of its beginning
}

// lay puts the nodes of p behind those that the machine has, and tells where p itself lies.
func (m *machine) lay(p api.Pat) int {
	at := len(m.nodes)
	m.nodes = append(m.nodes, node{})
	m.fill(at, p)
	return at
}

// fill makes the node at a place that is kept for it, and those below it.
func (m *machine) fill(at int, p api.Pat) {
	first := len(m.nodes)
	m.nodes = append(m.nodes, make([]node, len(p.Kids))...)
	n := node{kind: p.Kind, text: p.Text, number: p.N, first: first, end: len(m.nodes), to: -1}
	switch p.Kind {
	case api.PatCond, api.PatImm, api.PatCursor:
		n.name = strings.Clone(p.Name) // it comes to stand in answers
	case api.PatCall:
		n.rule = ruleNamed(m.rules, p.Name)
	}
	m.nodes[at] = n
	for i, kid := range p.Kids {
		m.fill(first+i, kid)
	}
}

// has tells whether the byte at a place is one of a node's. The set is made once: a text is long, and a node come to often.
func (m *machine) has(n *node, at int) bool {
	if n.set == nil {
		s := sets.Of(n.text)
		n.set = &s
	}
	return sets.Has(*n.set, m.subject[at])
}

// only is where the way of a node ends that has one at most, and comes to no other node.
func (m *machine) only(n *node, at int) (to int, ok bool) {
	end := len(m.subject)
	switch n.kind {
	case api.PatLit:
		return at + len(n.text), strings.HasPrefix(m.subject[at:], n.text)
	case api.PatLen:
		return at + n.number, n.number <= end-at
	case api.PatAny:
		return at + 1, at < end && m.has(n, at)
	case api.PatNotAny:
		return at + 1, at < end && !m.has(n, at)
	case api.PatSpan:
		to = m.until(n, false, at)
		return to, to > at
	case api.PatBreak:
		to = m.until(n, true, at)
		return to, to < end
	case api.PatTab:
		return n.number, at <= n.number && n.number <= end
	case api.PatRTab:
		return end - n.number, at <= end-n.number
	case api.PatPos:
		return at, at == n.number
	case api.PatRPos:
		return at, at == end-n.number
	case api.PatRem:
		return end, true
	}
	return 0, false // PatFail
}

// until is the first place from here on at which a byte of a node's stands (if want is false: one that is none of them), or the subject's end. The last stretch is kept: else the next places of a match would look through it again and again.
func (m *machine) until(n *node, want bool, at int) int {
	if at < n.from || at > n.to {
		n.from, n.to = at, at
		for n.to < len(m.subject) && m.has(n, n.to) != want {
			n.to++
		}
	}
	return n.to
}

// further is where the nearest way ends that is looked for from a place on, of a node that has many, and from where on the next one is.
func (m *machine) further(n *node, from int) (to, next int, ok bool) {
	switch n.kind {
	case api.PatBreakX:
		to = m.until(n, true, from)
		return to, to + 1, to < len(m.subject)
	case api.PatBal:
		to, ok = m.paired(from)
		return to, to, ok
	}
	return from, from + 1, from <= len(m.subject) // PatArb
}

// paired is the nearest place behind this one with all brackets between them in pairs.
func (m *machine) paired(from int) (to int, ok bool) {
	open := 0
	for at := from; at < len(m.subject) && open >= 0; at++ {
		switch m.subject[at] {
		case '(':
			open++
		case ')':
			open--
		}
		if open == 0 {
			return at + 1, true
		}
	}
	return 0, false
}
