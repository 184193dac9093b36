package syntax_test

import (
	"math/big"

	"scanfail/api"
	"scanfail/lex"
	"scanfail/pats"
)

// model reads a line without calling itself: it goes from state to state, and what is open in expressions it keeps in a list.
type model struct {
	tokens []api.Token
	end    int
	s      api.Statement
	fault  api.Fault
}

func modelLine(line string) (api.Statement, bool, api.Fault) {
	if len(line) > 2000 {
		return api.Statement{}, false, api.Fault{Err: api.ErrMuch}
	}
	if line != "" && line[0] == '*' {
		return api.Statement{}, false, api.Fault{}
	}
	tokens, fault := lex.Line(line)
	m := model{tokens: tokens, end: len(line), fault: fault}
	state := "deed"
	if line != "" && line[0] != ' ' && line[0] != ':' {
		state = "label"
	}
	for m.fault.Err == api.OK && state != "" {
		state = m.step(state)
	}
	if m.fault.Err == api.OK && (deepOf(m.s.Target) > 200 || deepOf(m.s.Value) > 200) {
		m.fault = api.Fault{Err: api.ErrMuch}
	}
	if m.fault.Err != api.OK {
		return api.Statement{}, false, m.fault
	}
	return m.s, true, api.Fault{}
}

func deepOf(x api.Expr) int {
	deep := 0
	for _, kid := range x.Kids {
		deep = max(deep, deepOf(kid))
	}
	return deep + 1
}

// see is which token comes behind so many others: its sign, or one byte for its kind, or nothing.
func (m *model) see(n int) string {
	if n >= len(m.tokens) {
		return ""
	}
	t := m.tokens[n]
	return []string{"", "w", "n", "t", "p", t.Text}[t.Kind]
}

func (m *model) at() int {
	if len(m.tokens) == 0 {
		return m.end
	}
	return m.tokens[0].At
}

func (m *model) wrong(err api.Errno, at int) string {
	m.fault = api.Fault{Err: err, At: at}
	return ""
}

// eat is the next token's text, if it is seen so.
func (m *model) eat(what string) string {
	if m.see(0) != what {
		return m.wrong(api.ErrForm, m.at())
	}
	t := m.tokens[0]
	if what == "w" && len(t.Text) > 16 {
		return m.wrong(api.ErrName, t.At)
	}
	m.tokens = m.tokens[1:]
	return t.Text
}

// oneMore puts a name behind a list, if there is room.
func (m *model) oneMore(l *[]string) {
	at := m.at()
	s := m.eat("w")
	if m.fault.Err == api.OK && len(*l) == 8 {
		m.wrong(api.ErrMany, at)
	}
	*l = append(*l, s)
}

// step does what is to be done in a state, and tells the next one.
func (m *model) step(state string) string {
	switch state {
	case "label":
		m.s.Label = m.eat("w")
		return "deed"
	case "deed":
		return m.deed()
	case "define":
		m.tokens = m.tokens[1:]
		m.s.Name = m.eat("w")
		if m.fault.Err == api.OK {
			m.eat("(")
		}
		if m.see(0) == ")" {
			return "behind"
		}
		return "param"
	case "param":
		m.oneMore(&m.s.Params)
		if m.see(0) != "," {
			return "behind"
		}
		m.tokens = m.tokens[1:]
		return "param"
	case "behind":
		m.eat(")")
		if m.see(1) == "w" || m.see(1) == "," {
			return "local"
		}
		return "entry"
	case "local":
		m.oneMore(&m.s.Locals)
		if m.see(0) != "," {
			return "entry"
		}
		m.tokens = m.tokens[1:]
		return "local"
	case "entry":
		m.s.Entry = m.eat("w")
		return "ways"
	case "ways", "yes", "noes":
		return m.waysOn(state)
	case "end":
		if len(m.tokens) > 0 {
			m.wrong(api.ErrForm, m.at())
		}
	}
	return ""
}

func (m *model) deed() string {
	switch {
	case m.see(0) == "" || m.see(0) == ":":
		m.s.Kind = 1
	case m.see(0) == "w" && m.see(1) == "w" && m.tokens[0].Text == "DEFINE":
		m.s.Kind = 7
		return "define"
	case m.see(0) == "w" && m.see(1) == ":=":
		m.s.Kind = 6
		if m.s.Name = m.eat("w"); m.fault.Err == api.OK {
			m.eat(":=")
			m.pattern()
		}
	default:
		m.rest()
	}
	return "ways"
}

func (m *model) pattern() {
	at := m.at()
	s := m.eat("p")
	if m.fault.Err != api.OK {
		return
	}
	p, fault := pats.Read(s)
	if fault.Err != api.OK {
		m.wrong(fault.Err, at+1+fault.At)
	}
	m.s.Pat = p
}

// rest is what begins with an expression.
func (m *model) rest() {
	at := m.at()
	x := m.expression()
	m.s.Kind, m.s.Value = 2, x
	if m.fault.Err == api.OK && m.see(0) == "?" {
		m.tokens = m.tokens[1:]
		m.pattern()
		m.s.Kind = 4
	}
	if m.fault.Err != api.OK || m.see(0) != "=" {
		return
	}
	m.tokens = m.tokens[1:]
	if x.Kind < 3 || x.Kind > 5 {
		m.wrong(api.ErrFit, at)
		return
	}
	m.s.Kind = map[int]int{2: 3, 4: 5}[m.s.Kind]
	m.s.Target = x
	m.s.Value = m.expression()
}

func (m *model) label() string {
	label := ""
	for _, what := range []string{"(", "w", ")"} {
		s := m.eat(what)
		if m.fault.Err != api.OK {
			return ""
		}
		if what == "w" {
			label = s
		}
	}
	return label
}

func (m *model) waysOn(state string) string {
	when := ""
	if m.see(0) == "w" {
		when = m.tokens[0].Text
	}
	switch {
	case state == "ways" && m.see(0) == ":":
		m.tokens = m.tokens[1:]
		return "yes"
	case state == "yes" && m.see(0) == "(":
		m.s.Always = m.label()
	case state == "yes" && when == "S":
		m.tokens = m.tokens[1:]
		m.s.Yes = m.label()
		return "noes"
	case state != "ways" && when == "F":
		m.tokens = m.tokens[1:]
		m.s.Noes = m.label()
	case state == "yes":
		m.wrong(api.ErrForm, m.at())
	}
	return "end"
}

// frame is what is open in an expression: a line's own, in brackets, in < >, or in a call; signs between two, and - (as !) and $ ahead; and what stands beside them.
type frame struct {
	opener, name string
	args, values []api.Expr
	signs        []byte
}

func levelOf(sign byte) int {
	return map[byte]int{'&': 1, '+': 2, '-': 2, '*': 3, '/': 3, '%': 3, '!': 4, '$': 5}[sign]
}

func kindOf(sign byte) int {
	return map[byte]int{'&': 8, '+': 9, '-': 10, '*': 11, '/': 12, '%': 13, '!': 7, '$': 5}[sign]
}

// lower makes of the last signs, as long as they hold together as tight as this level, what they make.
func (f *frame) lower(level int) {
	for len(f.signs) > 0 && levelOf(f.signs[len(f.signs)-1]) >= level {
		sign := f.signs[len(f.signs)-1]
		f.signs = f.signs[:len(f.signs)-1]
		n := 2
		if levelOf(sign) > 3 {
			n = 1
		}
		from := len(f.values) - n
		kids := append([]api.Expr(nil), f.values[from:]...)
		f.values = append(f.values[:from], api.Expr{Kind: kindOf(sign), Kids: kids})
	}
}

// openOf is how many are open.
func openOf(stack []frame) int {
	n := len(stack)
	for _, f := range stack {
		for _, sign := range f.signs {
			if levelOf(sign) > 3 {
				n++
			}
		}
	}
	return n
}

func (m *model) expression() api.Expr {
	stack := []frame{{opener: "own"}}
	wanted := true // whether something is to begin
	for {
		if openOf(stack) > 400 {
			m.wrong(api.ErrMuch, m.at())
			return api.Expr{}
		}
		f := &stack[len(stack)-1]
		if wanted {
			more, done := m.begin(f)
			if m.fault.Err != api.OK {
				return api.Expr{}
			}
			if more.opener != "" {
				stack = append(stack, more)
			}
			wanted = !done
			continue
		}
		f.lower(4)
		sign := m.see(0)
		switch {
		case len(sign) == 1 && levelOf(sign[0]) > 0 && sign != "$":
			f.lower(levelOf(sign[0]))
			f.signs = append(f.signs, sign[0])
			wanted = true
		case f.opener == "own":
			f.lower(0)
			return f.values[0]
		case sign == "," && f.opener == "call", sign == ")" && (f.opener == "(" || f.opener == "call"), sign == ">" && f.opener == "<":
			f.lower(0)
			f.args = append(f.args, f.values[0])
			f.values = nil
			wanted = sign == ","
			if !wanted {
				up := &stack[len(stack)-2]
				up.values = append(up.values, f.made())
				stack = stack[:len(stack)-1]
			}
		default:
			m.wrong(api.ErrForm, m.at())
			return api.Expr{}
		}
		m.tokens = m.tokens[1:]
	}
}

// made is what a frame comes to when it is shut.
func (f *frame) made() api.Expr {
	switch f.opener {
	case "(":
		return f.args[0]
	case "<":
		return api.Expr{Kind: 4, Name: f.name, Kids: f.args}
	}
	return api.Expr{Kind: 6, Name: f.name, Kids: f.args}
}

// begin takes what may begin something: it opens a frame, or is done, or is a sign ahead of something.
func (m *model) begin(f *frame) (more frame, done bool) {
	at := m.at()
	full := f.opener == "call" && len(f.args) == 8 && len(f.values)+len(f.signs) == 0
	behindDollar := len(f.signs) > 0 && f.signs[len(f.signs)-1] == '$'
	value := api.Expr{}
	switch what := m.see(0); {
	case what == "w":
		more, value = m.named()
	case what == "n":
		value = m.number()
	case what == "t":
		value = api.Expr{Kind: 1, Text: m.eat("t")}
	case what == "(":
		m.eat("(")
		more.opener = "("
	case what == "$":
		m.eat("$")
		f.signs = append(f.signs, '$')
	case what == "-" && !behindDollar:
		m.eat("-")
		f.signs = append(f.signs, '!')
	default:
		m.wrong(api.ErrForm, at)
	}
	if m.fault.Err == api.OK && full {
		m.wrong(api.ErrMany, at)
	}
	if value.Kind != 0 {
		f.values = append(f.values, value)
	}
	return more, value.Kind != 0
}

// named is what a name begins.
func (m *model) named() (more frame, value api.Expr) {
	s := m.eat("w")
	switch {
	case m.fault.Err != api.OK:
	case m.see(0) == "<":
		m.eat("<")
		more = frame{opener: "<", name: s}
	case m.see(0) == "(" && m.see(1) == ")":
		m.tokens = m.tokens[2:]
		value = api.Expr{Kind: 6, Name: s}
	case m.see(0) == "(":
		m.eat("(")
		more = frame{opener: "call", name: s}
	default:
		value = api.Expr{Kind: 3, Name: s}
	}
	return more, value
}

func (m *model) number() api.Expr {
	at := m.at()
	s := m.eat("n")
	n, _ := new(big.Int).SetString(s, 10)
	switch {
	case n.String() != s:
		m.wrong(api.ErrForm, at)
	case !n.IsInt64():
		m.wrong(api.ErrRange, at)
	}
	return api.Expr{Kind: 2, N: n.Int64()}
}
