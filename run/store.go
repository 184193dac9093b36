package run

import (
	"cmp"
	"slices"
	"strings"

	"scanfail/api"
)

// place is what can be given a text: a variable, or the item of a name and a key.
type place struct {
	name, key string
	item      bool
}

func variable(name string) place { return place{name: name} }

func itemOf(name, key string) place { return place{name: name, key: key, item: true} }

// cell is what a place has.
type cell struct{ text string }

// store keeps what places have; of those that have nothing there is no cell.
type store struct {
	cells map[place]cell
	kept  int
}

func newStore() store { return store{cells: map[place]cell{}} }

// has is what a place has; INPUT and OUTPUT never have anything.
func (s *store) has(p place) string { return s.cells[p].text }

// weight is how much is kept of a place that has a text.
func weight(p place, text string) int {
	if text == "" {
		return 0
	}
	return len(p.key) + len(text)
}

// put lets a place have a text, unless more would be kept then than may be. What is kept is cloned: a short piece would else hold the long text that it was cut from.
func (s *store) put(p place, text string) bool {
	kept := s.kept - weight(p, s.has(p)) + weight(p, text)
	if kept > api.MaxStore {
		return false
	}
	s.kept = kept
	if text == "" {
		delete(s.cells, p)
		return true
	}
	p.name, p.key = strings.Clone(p.name), strings.Clone(p.key)
	s.cells[p] = cell{strings.Clone(text)}
	return true
}

// list is the variables and the items that have something, rising.
func (s *store) list() (vars []api.Gift, items []api.Item) {
	for p, c := range s.cells {
		if p.item {
			items = append(items, api.Item{Name: p.name, Key: p.key, Text: c.text})
		} else {
			vars = append(vars, api.Gift{Name: p.name, Text: c.text})
		}
	}
	slices.SortFunc(vars, func(a, b api.Gift) int { return cmp.Compare(a.Name, b.Name) })
	slices.SortFunc(items, func(a, b api.Item) int {
		return cmp.Or(cmp.Compare(a.Name, b.Name), cmp.Compare(a.Key, b.Key))
	})
	return vars, items
}
