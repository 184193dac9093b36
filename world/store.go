package world

import (
	"cmp"
	"slices"
	"strings"

	"scanfail/api"
	"scanfail/pats"
)

// Place is what can be given a text: a variable, or the item of a name and a key.
type Place struct {
	name, key string
	item      bool
}

// Variable is the place of a name.
func Variable(name string) Place { return Place{name: name} }

// ItemOf is the place of a name and a key.
func ItemOf(name, key string) Place { return Place{name: name, key: key, item: true} }

// Named is the variable whose name a text is. It fails if it is none.
func Named(text string) (Place, bool) {
	if !pats.Named(text) {
		return Place{}, false
	}
	return Variable(text), true
}

// cell is what a place has.
type cell struct{ text string }

// store keeps what places have; of those that have nothing there is no cell.
type store struct {
	cells map[Place]cell
	kept  int
}

func newStore() store { return store{cells: map[Place]cell{}} }

// has is what a place has; INPUT and OUTPUT never have anything.
func (s *store) has(p Place) string { return s.cells[p].text }

// weight is how much is kept of a place that has a text.
func weight(p Place, text string) int {
	if text == "" {
		return 0
	}
	return len(p.key) + len(text)
}

// put lets a place have a text, unless more would be kept then than may be. What is kept is cloned: a short piece would else hold the long text that it was cut from.
func (s *store) put(p Place, text string) bool {
	kept := s.kept - weight(p, s.has(p)) + weight(p, text)
	if kept > api.MaxStore {
		return false
	}
	s.kept = kept
	if text == "" {
		delete(s.cells, p)
		return true
	}
	p.name, p.key = strings.Clone(p.name), strings.Clone(p.key)
	s.cells[p] = cell{strings.Clone(text)}
	return true
}

// list is the variables and the items that have something, rising.
func (s *store) list() (vars []api.Gift, items []api.Item) {
	for p, c := range s.cells {
		if p.item {
			items = append(items, api.Item{Name: p.name, Key: p.key, Text: c.text})
		} else {
			vars = append(vars, api.Gift{Name: p.name, Text: c.text})
		}
	}
	slices.SortFunc(vars, func(a, b api.Gift) int { return cmp.Compare(a.Name, b.Name) })
	slices.SortFunc(items, func(a, b api.Item) int {
		return cmp.Or(cmp.Compare(a.Name, b.Name), cmp.Compare(a.Key, b.Key))
	})
	return vars, items
}
