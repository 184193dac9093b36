package run_test

import (
	"math/big"
	"slices"
	"strings"

	"scanfail/api"
	"scanfail/pats"
	"scanfail/scan"
)

// The model knows nothing ahead: labels, functions, and how much is kept, are looked for anew each time, in lists. What fails, and what ends the run, are panics.

type modelFails struct{}

type modelEnds struct{ how int }

type slot struct {
	item            bool
	name, key, text string
}

type model struct {
	l                   []api.Statement
	input, out          []string
	limit, steps, depth int
	comings             []int
	slots               []slot
	given               []api.Rule
	fails, deep         int // how often something failed, and MaxCalls calls were open
}

func modelRun(l []api.Statement, input []string, limit int) (*model, api.Ran) {
	m := &model{l: l, input: slices.Clone(input), limit: limit, comings: make([]int, len(l))}
	how := func() (how int) {
		defer func() {
			if e, ok := recover().(modelEnds); ok {
				how = e.how
			}
		}()
		m.walk(0)
		return 1
	}()
	r := api.Ran{Output: m.out, How: how, Steps: m.steps}
	slices.SortFunc(m.slots, func(a, b slot) int { return strings.Compare(a.name+"\x00"+a.key, b.name+"\x00"+b.key) })
	for _, s := range m.slots {
		if s.text != "" && s.item {
			r.Items = append(r.Items, api.Item{Name: s.name, Key: s.key, Text: s.text})
		} else if s.text != "" {
			r.Vars = append(r.Vars, api.Gift{Name: s.name, Text: s.text})
		}
	}
	return m, r
}

func (m *model) fail() {
	m.fails++
	panic(modelFails{})
}

func (m *model) need(so bool) {
	if !so {
		m.fail()
	}
}

func (m *model) end(how int) { panic(modelEnds{how}) }

func (m *model) slot(item bool, name, key string) *slot {
	for i, s := range m.slots {
		if s.item == item && s.name == name && s.key == key {
			return &m.slots[i]
		}
	}
	m.slots = append(m.slots, slot{item: item, name: name, key: key})
	return &m.slots[len(m.slots)-1]
}

func (m *model) give(s *slot, text string) {
	m.need(len(text) <= 65536 && (s.item || s.name != "INPUT"))
	if !s.item && s.name == "OUTPUT" {
		sum := len(text) + 1
		for _, line := range m.out {
			sum += len(line) + 1
		}
		if sum > 1048576 {
			m.end(3)
		}
		m.out = append(m.out, text)
		return
	}
	old := s.text
	s.text = text
	sum := 0
	for _, x := range m.slots {
		if x.text != "" {
			sum += len(x.text) + len(x.key)
		}
	}
	if sum > 1048576 {
		s.text = old
		m.end(3)
	}
}

func (m *model) read(s slot) string {
	if !s.item && s.name == "INPUT" {
		m.need(len(m.input) > 0)
		line := m.input[0]
		m.input = m.input[1:]
		return line
	}
	return s.text
}

func (m *model) labelled(label string) int {
	return slices.IndexFunc(m.l, func(s api.Statement) bool { return s.Label == label })
}

// walk goes on from a statement, and tells by which label it comes back.
func (m *model) walk(at int) string {
	if at == len(m.l) {
		m.end(1)
	}
	if m.steps == m.limit {
		m.end(2)
	}
	m.steps++
	m.comings[at]++
	s := m.l[at]
	label := s.Noes
	if m.tries(func() { m.do(s) }) {
		label = s.Yes
	}
	label += s.Always // Yes and Noes are empty, if Always is not
	switch label {
	case "":
		return m.walk(at + 1)
	case "END":
		m.end(1)
	case "RETURN", "FRETURN":
		return label
	}
	return m.walk(m.labelled(label))
}

// tries does something, and tells whether it did not fail.
func (m *model) tries(do func()) (ok bool) {
	defer func() {
		if e := recover(); e != nil {
			if _, failed := e.(modelFails); !failed {
				panic(e)
			}
			ok = false
		}
	}()
	do()
	return true
}

func (m *model) do(s api.Statement) {
	switch s.Kind {
	case 2:
		m.value(s.Value)
	case 3:
		name, item, key := m.place(s.Target)
		text := m.value(s.Value)
		m.give(m.slot(item, name, key), text)
	case 4:
		m.match(s.Pat, m.value(s.Value))
	case 5:
		name, item, key := m.place(s.Target)
		text := m.read(*m.slot(item, name, key))
		from, to := m.match(s.Pat, text)
		text = strings.Join([]string{text[:from], m.value(s.Value), text[to:]}, "")
		m.give(m.slot(item, name, key), text)
	case 6:
		m.given = append(m.given, api.Rule{Name: s.Name, Pat: s.Pat})
	}
}

func (m *model) place(x api.Expr) (name string, item bool, key string) {
	switch x.Kind {
	case 4:
		return x.Name, true, m.value(x.Kids[0])
	case 5:
		name = m.value(x.Kids[0])
		m.need(pats.Named(name))
		return name, false, ""
	}
	return x.Name, false, ""
}

func (m *model) match(p api.Pat, text string) (from, to int) {
	var rules []api.Rule
	_, names, _ := pats.Names(p)
	for i := 0; i < len(names); i++ {
		q := api.Pat{Kind: api.PatLit, Text: m.slot(false, names[i], "").text}
		for _, r := range m.given {
			if r.Name == names[i] {
				q = r.Pat
			}
		}
		rules = append(rules, api.Rule{Name: names[i], Pat: q})
		_, more, _ := pats.Names(q)
		for _, name := range more {
			if !slices.Contains(names, name) {
				names = append(names, name)
			}
		}
	}
	m.need(len(rules) <= 64)
	got, err := scan.Match(rules, p, text, false, m.limit-m.steps)
	if err == api.ErrFuel {
		m.steps = m.limit
		m.end(2)
	}
	m.need(err == api.OK)
	m.steps += got.Ticks
	for _, g := range append(got.Said, got.Given...) {
		m.tries(func() { m.give(m.slot(false, g.Name, ""), g.Text) })
	}
	m.need(got.Found)
	return got.From, got.To
}

func (m *model) value(x api.Expr) string {
	switch x.Kind {
	case 3, 4, 5:
		name, item, key := m.place(x)
		return m.read(*m.slot(item, name, key))
	}
	var l []string
	for _, kid := range x.Kids {
		l = append(l, m.value(kid))
	}
	switch x.Kind {
	case 1:
		return x.Text
	case 2:
		return big.NewInt(x.N).String()
	case 6:
		for _, s := range m.l {
			if s.Kind == 7 && s.Name == x.Name {
				return m.call(s, l)
			}
		}
		return m.function(x.Name, l)
	case 8:
		m.need(len(l[0])+len(l[1]) <= 65536)
		return strings.Join(l, "")
	}
	if x.Kind == 7 {
		l = []string{"", l[0]}
	}
	return m.function([]string{7: "SUB", 9: "ADD", 10: "SUB", 11: "MUL", 12: "DIV", 13: "REMDR"}[x.Kind], l)
}

func (m *model) call(s api.Statement, args []string) string {
	if m.depth == 100 {
		m.deep++
		m.fail()
	}
	own := append(append(append([]string{}, s.Params...), s.Locals...), s.Name)
	var aside []string
	for i, name := range own {
		aside = append(aside, m.slot(false, name, "").text)
		m.give(m.slot(false, name, ""), append(args, make([]string, 20)...)[i])
	}
	m.depth++
	how := m.walk(m.labelled(s.Entry))
	m.depth--
	out := m.slot(false, s.Name, "").text
	for i, name := range own {
		m.give(m.slot(false, name, ""), aside[i])
	}
	m.need(how == "RETURN")
	return out
}

// number is a text as a number that is as great as it likes; then it must be one of 64 bits.
func (m *model) number(text string) *big.Int {
	text = strings.Trim(text, " \t")
	if text == "" {
		return big.NewInt(0)
	}
	digits := text
	if text[0] == '+' || text[0] == '-' {
		digits = text[1:]
	}
	m.need(digits != "" && strings.Trim(digits, "0123456789") == "")
	n, _ := new(big.Int).SetString(text, 10)
	m.need(n.IsInt64())
	return n
}

// printed is a number of 64 bits in digits.
func (m *model) printed(n *big.Int) string {
	m.need(n.IsInt64())
	return n.String()
}

func (m *model) function(name string, l []string) string {
	switch name {
	case "SIZE", "TRIM", "REVERSE", "REPLACE", "COUNT", "DUPL", "ROTATE", "SUBSTR", "LPAD", "RPAD", "IDENT", "DIFFER", "LGT":
		return m.ofTexts(name, l)
	case "INTEGER":
		m.number(l[0])
		return ""
	case "UNBASE":
		base := m.number(l[1])
		m.need(base.Cmp(big.NewInt(1)) > 0 && base.Cmp(big.NewInt(37)) < 0)
		m.need(strings.Trim(strings.TrimPrefix(l[0], "-"), "0123456789abcdefghijklmnopqrstuvwxyz"[:base.Int64()]) == "" && strings.TrimPrefix(l[0], "-") != "")
		n, _ := new(big.Int).SetString(l[0], int(base.Int64()))
		return m.printed(n)
	}
	a, b := m.number(l[0]), big.NewInt(0)
	if len(l) > 1 {
		b = m.number(l[1])
	}
	switch name {
	case "ADD":
		return m.printed(new(big.Int).Add(a, b))
	case "SUB":
		return m.printed(new(big.Int).Sub(a, b))
	case "MUL":
		return m.printed(new(big.Int).Mul(a, b))
	case "DIV":
		m.need(b.Sign() != 0)
		return m.printed(new(big.Int).Quo(a, b))
	case "REMDR":
		m.need(b.Sign() != 0)
		return m.printed(new(big.Int).Rem(a, b))
	case "ROOT":
		m.need(a.Sign() >= 0)
		return m.printed(new(big.Int).Sqrt(a))
	case "GCD":
		return m.printed(new(big.Int).GCD(nil, nil, new(big.Int).Abs(a), new(big.Int).Abs(b)))
	case "POWER":
		m.need(b.Sign() >= 0)
		if b.Cmp(big.NewInt(100)) > 0 {
			m.need(a.CmpAbs(big.NewInt(2)) < 0)
			b = new(big.Int).Add(big.NewInt(100), new(big.Int).Rem(b, big.NewInt(2)))
		}
		return m.printed(new(big.Int).Exp(a, b, nil))
	case "BASE":
		m.need(b.Cmp(big.NewInt(1)) > 0 && b.Cmp(big.NewInt(37)) < 0)
		return a.Text(int(b.Int64()))
	}
	m.need(slices.Contains(map[string][]int{"EQ": {0}, "NE": {-1, 1}, "LT": {-1}, "LE": {-1, 0}, "GT": {1}, "GE": {0, 1}}[name], a.Cmp(b)))
	return ""
}

func (m *model) ofTexts(name string, l []string) string {
	text := l[0]
	switch name {
	case "SIZE":
		return big.NewInt(int64(len(text))).String()
	case "TRIM":
		for strings.HasSuffix(text, " ") || strings.HasSuffix(text, "\t") {
			text = text[:len(text)-1]
		}
		return text
	case "REVERSE":
		b := []byte(text)
		slices.Reverse(b)
		return string(b)
	case "REPLACE":
		m.need(l[1] != "" && len(l[1]) == len(l[2]))
		b := []byte(text)
		for i := range b {
			if at := strings.LastIndexByte(l[1], b[i]); at >= 0 {
				b[i] = l[2][at]
			}
		}
		return string(b)
	case "COUNT":
		m.need(l[1] != "")
		return big.NewInt(int64(len(strings.Split(text, l[1])) - 1)).String()
	case "IDENT":
		m.need(text == l[1])
		return ""
	case "DIFFER":
		m.need(text != l[1])
		return ""
	case "LGT":
		m.need(text > l[1])
		return ""
	}
	n := m.number(l[1])
	switch name {
	case "DUPL":
		m.need(n.Sign() >= 0 && new(big.Int).Mul(n, big.NewInt(int64(len(text)))).Cmp(big.NewInt(65536)) <= 0)
		if text == "" {
			return ""
		}
		return strings.Repeat(text, int(n.Int64()))
	case "ROTATE":
		if text == "" {
			return ""
		}
		k := new(big.Int).Mod(n, big.NewInt(int64(len(text)))).Int64()
		return (text + text)[k : k+int64(len(text))]
	case "SUBSTR":
		size := m.number(l[2])
		end := new(big.Int).Add(n, size)
		m.need(n.Sign() > 0 && size.Sign() >= 0 && end.Cmp(big.NewInt(int64(len(text))+1)) <= 0)
		return text[n.Int64()-1 : end.Int64()-1]
	}
	m.need(len(l[2]) == 1 && n.Cmp(big.NewInt(65536)) <= 0)
	if n.Cmp(big.NewInt(int64(len(text)))) <= 0 {
		return text
	}
	fill := strings.Repeat(l[2], int(n.Int64())-len(text))
	if name == "LPAD" {
		return fill + text
	}
	return text + fill
}
