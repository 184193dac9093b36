package machine_test

import (
	"slices"
	"strings"

	"scanfail/api"
	"scanfail/pats"
	"scanfail/run"
	"scanfail/scan"
)

// The model goes through statements and expressions, not through instructions, and takes down which statements it comes to. What fails, and what ends the run, are panics. What an operator, or a function of the language, makes of texts chapter 12 tells, which runs it alone.

type modelFails struct{}

type modelEnds struct{ how int }

type slot struct {
	item            bool
	name, key, text string
}

type model struct {
	l                   []api.Statement
	input, out          []string
	limit, steps, depth int
	comings             []int
	seen                []api.Seen
	slots               []slot
	given               []api.Rule
	how                 int
}

func modelRun(l []api.Statement, input []string, limit int) (*model, api.Ran) {
	m := &model{l: l, input: slices.Clone(input), limit: limit, comings: make([]int, len(l))}
	m.how = func() (how int) {
		defer func() {
			if e, ok := recover().(modelEnds); ok {
				how = e.how
			}
		}()
		m.walk(0)
		return 1
	}()
	r := api.Ran{Output: m.out, How: m.how, Steps: m.steps}
	slices.SortFunc(m.slots, func(a, b slot) int { return strings.Compare(a.name+"\x00"+a.key, b.name+"\x00"+b.key) })
	for _, s := range m.slots {
		if s.text != "" && s.item {
			r.Items = append(r.Items, api.Item{Name: s.name, Key: s.key, Text: s.text})
		} else if s.text != "" {
			r.Vars = append(r.Vars, api.Gift{Name: s.name, Text: s.text})
		}
	}
	return m, r
}

func (m *model) need(so bool) {
	if !so {
		panic(modelFails{})
	}
}

func (m *model) end(how int) { panic(modelEnds{how}) }

func (m *model) slot(item bool, name, key string) *slot {
	for i, s := range m.slots {
		if s.item == item && s.name == name && s.key == key {
			return &m.slots[i]
		}
	}
	m.slots = append(m.slots, slot{item: item, name: name, key: key})
	return &m.slots[len(m.slots)-1]
}

func (m *model) give(s *slot, text string) {
	m.need(len(text) <= 65536 && (s.item || s.name != "INPUT"))
	if !s.item && s.name == "OUTPUT" {
		sum := len(text) + 1
		for _, line := range m.out {
			sum += len(line) + 1
		}
		if sum > 1048576 {
			m.end(3)
		}
		m.out = append(m.out, text)
		return
	}
	old := s.text
	s.text = text
	sum := 0
	for _, x := range m.slots {
		if x.text != "" {
			sum += len(x.text) + len(x.key)
		}
	}
	if sum > 1048576 {
		s.text = old
		m.end(3)
	}
}

func (m *model) read(s slot) string {
	if !s.item && s.name == "INPUT" {
		m.need(len(m.input) > 0)
		line := m.input[0]
		m.input = m.input[1:]
		return line
	}
	return s.text
}

func (m *model) labelled(label string) int {
	return slices.IndexFunc(m.l, func(s api.Statement) bool { return s.Label == label })
}

// walk goes on from a statement, and tells by which label it comes back.
func (m *model) walk(at int) string {
	if at == len(m.l) {
		m.end(1)
	}
	if m.steps == m.limit {
		m.end(2)
	}
	m.steps++
	m.comings[at]++
	number := len(m.seen)
	m.seen = append(m.seen, api.Seen{At: at, Within: m.depth})
	s := m.l[at]
	label := s.Noes
	if m.tries(func() { m.do(s) }) {
		label = s.Yes
		m.seen[number].OK = true
	}
	label += s.Always // Yes and Noes are empty, if Always is not
	switch label {
	case "":
		return m.walk(at + 1)
	case "END":
		m.end(1)
	case "RETURN", "FRETURN":
		return label
	}
	return m.walk(m.labelled(label))
}

// tries does something, and tells whether it did not fail.
func (m *model) tries(do func()) (ok bool) {
	defer func() {
		if e := recover(); e != nil {
			if _, failed := e.(modelFails); !failed {
				panic(e)
			}
			ok = false
		}
	}()
	do()
	return true
}

func (m *model) do(s api.Statement) {
	switch s.Kind {
	case api.StEval:
		m.value(s.Value)
	case api.StAssign:
		name, item, key := m.place(s.Target)
		text := m.value(s.Value)
		m.give(m.slot(item, name, key), text)
	case api.StMatch:
		m.match(s.Pat, m.value(s.Value))
	case api.StReplace:
		name, item, key := m.place(s.Target)
		text := m.read(*m.slot(item, name, key))
		from, to := m.match(s.Pat, text)
		text = strings.Join([]string{text[:from], m.value(s.Value), text[to:]}, "")
		m.give(m.slot(item, name, key), text)
	case api.StRule:
		m.given = append(m.given, api.Rule{Name: s.Name, Pat: s.Pat})
	}
}

func (m *model) place(x api.Expr) (name string, item bool, key string) {
	switch x.Kind {
	case api.ExItem:
		return x.Name, true, m.value(x.Kids[0])
	case api.ExIndirect:
		name = m.value(x.Kids[0])
		m.need(pats.Named(name))
		return name, false, ""
	}
	return x.Name, false, ""
}

func (m *model) match(p api.Pat, text string) (from, to int) {
	var rules []api.Rule
	_, names, _ := pats.Names(p)
	for i := 0; i < len(names); i++ {
		q := api.Pat{Kind: api.PatLit, Text: m.slot(false, names[i], "").text}
		for _, r := range m.given {
			if r.Name == names[i] {
				q = r.Pat
			}
		}
		rules = append(rules, api.Rule{Name: names[i], Pat: q})
		_, more, _ := pats.Names(q)
		for _, name := range more {
			if !slices.Contains(names, name) {
				names = append(names, name)
			}
		}
	}
	m.need(len(rules) <= 64)
	got, err := scan.Match(rules, p, text, false, m.limit-m.steps)
	if err == api.ErrFuel {
		m.steps = m.limit
		m.end(2)
	}
	m.need(err == api.OK)
	m.steps += got.Ticks
	for _, g := range append(got.Said, got.Given...) {
		m.tries(func() { m.give(m.slot(false, g.Name, ""), g.Text) })
	}
	m.need(got.Found)
	return got.From, got.To
}

func (m *model) value(x api.Expr) string {
	switch x.Kind {
	case api.ExName, api.ExItem, api.ExIndirect:
		name, item, key := m.place(x)
		return m.read(*m.slot(item, name, key))
	}
	var l []string
	for _, kid := range x.Kids {
		l = append(l, m.value(kid))
	}
	if x.Kind == api.ExCall {
		for _, s := range m.l {
			if s.Kind == api.StDefine && s.Name == x.Name {
				return m.call(s, l)
			}
		}
	}
	return m.alone(x, l)
}

// alone is what an expression has whose kids have these texts.
func (m *model) alone(x api.Expr, l []string) string {
	x.Kids = nil
	for _, text := range l {
		x.Kids = append(x.Kids, api.Expr{Kind: api.ExText, Text: text})
	}
	ran, _, fault := run.Run([]api.Statement{{Kind: api.StAssign, Target: api.Expr{Kind: api.ExName, Name: "OUTPUT"}, Value: x}}, nil, 1)
	if fault != (api.Fault{}) {
		panic(fault)
	}
	m.need(len(ran.Output) == 1)
	return ran.Output[0]
}

func (m *model) call(s api.Statement, args []string) string {
	m.need(m.depth < 100)
	own := slices.Concat(s.Params, s.Locals, []string{s.Name})
	var aside []string
	for i, name := range own {
		aside = append(aside, m.slot(false, name, "").text)
		m.give(m.slot(false, name, ""), append(args, make([]string, 20)...)[i])
	}
	m.depth++
	how := m.walk(m.labelled(s.Entry))
	m.depth--
	out := m.slot(false, s.Name, "").text
	for i, name := range own {
		m.give(m.slot(false, name, ""), aside[i])
	}
	m.need(how == "RETURN")
	return out
}
