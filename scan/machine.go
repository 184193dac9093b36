package scan

import (
	"strconv"
	"strings"

	"scanfail/api"
)

// nothing is what is behind the whole pattern.
const nothing = -1

// machine tries the ways of a pattern, one behind the other. What it has still to do, and where it may go back to, stand in lists: rules may call one another too deep for functions that do.
type machine struct {
	subject string
	rules   []api.Rule
	nodes   []node
	root    int
	roots   []int // of the rules' patterns; -1: not laid yet

	begun    bool
	node, at int // what is come to, and the place
	behind   int // which one of works is behind it
	works    []work
	choices  []choice

	given, said []api.Gift
	told, room  int // how many were told, how many of them are kept
	fuel, ticks int
	shut        bool // nobody may look further
	err         api.Errno
}

// work is what a node does behind a kid that it came to at a place, and which work is behind it.
type work struct{ node, kid, from, behind int }

// choice is a node that may have more ways, where the next one is looked for, and what the machine was at there.
type choice struct{ node, next, at, behind, works, given int }

// turn is what the machine does next.
type turn int

const (
	toNode turn = iota
	toBehind
	toBack
	toEnd
)

// newMachine has a subject of its own: what is given and told are pieces of it, so that many long ones take no memory.
func newMachine(rules []api.Rule, p api.Pat, subject string, fuel, room int) *machine {
	m := &machine{subject: strings.Clone(subject), rules: rules, roots: make([]int, len(rules)), fuel: fuel, room: room}
	for i := range m.roots {
		m.roots[i] = -1
	}
	m.root = m.lay(p)
	return m
}

// begin makes ready to come to the pattern at a place.
func (m *machine) begin(at int) {
	m.begun, m.node, m.at, m.behind = false, m.root, at, nothing
	m.works, m.choices, m.given = m.works[:0], m.choices[:0], m.given[:0]
}

// next goes to the next way with nothing behind it. It is false if there is none, nobody may look further, or something is wrong.
func (m *machine) next() bool {
	if m.begun {
		goto back
	}
	m.begun = true
come:
	switch m.come() {
	case toNode:
		goto come
	case toBack:
		goto back
	case toEnd:
		return false
	}
behind:
	if m.behind == nothing {
		return true
	}
	switch m.follow() {
	case toNode:
		goto come
	case toBehind:
		goto behind
	}
back:
	switch m.retry() {
	case toNode:
		goto come
	case toBehind:
		goto behind
	case toBack:
		goto back
	}
	return false
}

// come counts a coming to a node, and begins with its ways.
func (m *machine) come() turn {
	if m.ticks == m.fuel {
		m.err = api.ErrFuel
		return toEnd
	}
	m.ticks++
	n := &m.nodes[m.node]
	switch n.kind {
	case api.PatAbort:
		m.shut = true
		return toEnd
	case api.PatArbno, api.PatFence:
		m.choose(nothing)
		return toBehind
	case api.PatAlt:
		m.choose(n.first)
		return toBack
	case api.PatArb, api.PatBreakX, api.PatBal:
		m.choose(m.at)
		return toBack
	case api.PatCat, api.PatCond, api.PatImm:
		m.enter(m.node, n.first)
		return toNode
	case api.PatCall:
		return m.call(n.rule)
	case api.PatCursor:
		m.tell(n.name, strconv.Itoa(m.at))
		return toBehind
	}
	to, ok := m.only(n, m.at)
	if !ok {
		return toBack
	}
	m.at = to
	return toBehind
}

// choose keeps that the node may have more ways.
func (m *machine) choose(next int) {
	m.choices = append(m.choices, choice{m.node, next, m.at, m.behind, len(m.works), len(m.given)})
}

// enter makes a kid the next node. Behind the last kid of PatCat there is nothing to do: so a rule that calls itself there does not pile up works.
func (m *machine) enter(node, kid int) {
	m.node = kid
	if n := &m.nodes[node]; n.kind == api.PatCat && kid+1 == n.end {
		return
	}
	m.works = append(m.works, work{node, kid, m.at, m.behind})
	m.behind = len(m.works) - 1
}

// call makes the pattern of a rule the next node. It is laid only then: most of the rules may never be called.
func (m *machine) call(rule int) turn {
	if rule < 0 {
		m.err = api.ErrName
		return toEnd
	}
	if m.roots[rule] < 0 {
		m.roots[rule] = m.lay(m.rules[rule].Pat)
	}
	m.node = m.roots[rule]
	return toNode
}

func (m *machine) tell(name, text string) {
	if m.told++; m.told <= m.room {
		m.said = append(m.said, api.Gift{Name: name, Text: text})
	}
}

// follow does the work that is behind, now that a kid's way has ended.
func (m *machine) follow() turn {
	w := m.works[m.behind]
	m.behind = w.behind
	n := &m.nodes[w.node]
	switch n.kind {
	case api.PatCat:
		m.enter(w.node, w.kid+1)
		return toNode
	case api.PatArbno:
		if m.at == w.from {
			return toBack
		}
		m.node = w.node
		m.choose(nothing)
	case api.PatCond:
		m.given = append(m.given, api.Gift{Name: n.name, Text: m.subject[w.from:m.at]})
	case api.PatImm:
		m.tell(n.name, m.subject[w.from:m.at])
	}
	return toBehind
}

// retry goes back to the last choice, and on with its next way. Works and gifts that came behind it are left: nothing that is still to be tried knows of them.
func (m *machine) retry() turn {
	last := len(m.choices) - 1
	if last < 0 {
		return toEnd
	}
	c := &m.choices[last]
	m.at, m.behind, m.works, m.given = c.at, c.behind, m.works[:c.works], m.given[:c.given]
	n := &m.nodes[c.node]
	switch n.kind {
	case api.PatFence:
		m.shut = true
		return toEnd
	case api.PatAlt:
		m.node = c.next
		if c.next++; c.next == n.end {
			m.choices = m.choices[:last]
		}
		return toNode
	case api.PatArbno:
		m.choices = m.choices[:last]
		m.enter(c.node, n.first)
		return toNode
	}
	to, next, ok := m.further(n, c.next)
	if !ok {
		m.choices = m.choices[:last]
		return toBack
	}
	m.at, c.next = to, next
	return toBehind
}
