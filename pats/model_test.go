package pats_test

import (
	"regexp"
	"strconv"
	"strings"

	"scanfail/api"
)

// sign is a sign of a text, what it says, and where it begins.
type sign struct {
	is   byte // W: a word, N: a number, Q: a text in quotes, U: one that does not end, or the byte itself
	text string
	at   int
}

var aSign = regexp.MustCompile(`(?s)^(?:([A-Z][A-Z0-9]*)|([0-9]+)|'((?:[^']|'')*)('?))`)

// signsOf cuts a text into signs.
func signsOf(text string) []sign {
	var out []sign
	for at := 0; at < len(text); {
		m := aSign.FindStringSubmatchIndex(bytewise(text[at:]))
		switch {
		case text[at] == ' ':
			at++
		case m == nil:
			out = append(out, sign{text[at], "", at})
			at++
		case m[2] >= 0:
			out = append(out, sign{'W', text[at : at+m[1]], at})
			at += m[1]
		case m[4] >= 0:
			out = append(out, sign{'N', text[at : at+m[1]], at})
			at += m[1]
		case m[8] == m[9]:
			return append(out, sign{'U', "", at})
		default:
			out = append(out, sign{'Q', strings.ReplaceAll(text[at+m[6]:at+m[7]], "''", "'"), at})
			at += m[1]
		}
	}
	return out
}

// bytewise is s with other bytes for those that a regexp would take for parts of runes.
func bytewise(s string) string {
	b := []byte(s)
	for i := range b {
		if b[i] >= 128 {
			b[i] = ';'
		}
	}
	return string(b)
}

// level is a bracket that is open: its alternatives up to here, and the last one's pieces.
type level struct {
	alts, cats []api.Pat
	arbno      bool
}

func (l *level) shut() api.Pat {
	l.bar()
	if len(l.alts) == 1 {
		return l.alts[0]
	}
	return alt(l.alts...)
}

func (l *level) bar() {
	p := cat(l.cats...)
	if len(l.cats) == 1 {
		p = l.cats[0]
	}
	l.alts, l.cats = append(l.alts, p), nil
}

// model reads a text sign by sign, with a list of what is open and a word for what must come; it calls nothing of itself again.
type model struct {
	levels []*level
	must   string // piece, (any) more, name, open, number, text, close
	kind   int    // of what is begun
}

func (m *model) top() *level { return m.levels[len(m.levels)-1] }

func (m *model) done(p api.Pat) {
	m.top().cats = append(m.top().cats, p)
	m.must = "more"
}

var modelWords = map[string]int{"LEN": 2, "ANY": 3, "NOTANY": 4, "SPAN": 5, "BREAK": 6, "BREAKX": 7, "TAB": 8, "RTAB": 9, "POS": 10, "RPOS": 11, "REM": 12, "ARB": 13, "BAL": 14, "FAIL": 15, "FENCE": 16, "ABORT": 17, "ARBNO": 20}

func modelRead(text string) (api.Pat, api.Fault) {
	if len(text) > api.MaxText {
		return api.Pat{}, api.Fault{Err: api.ErrMuch}
	}
	m := model{levels: []*level{{}}, must: "piece"}
	for _, s := range signsOf(text) {
		if f := m.meet(s, len(text)); f.Err != api.OK {
			return api.Pat{}, f
		}
	}
	if m.must != "more" || len(m.levels) > 1 {
		return api.Pat{}, api.Fault{Err: api.ErrForm, At: len(text)}
	}
	p := m.top().shut()
	nodes, depth := 0, 0
	count(p, 1, &nodes, &depth)
	if nodes > 4096 || depth > 200 {
		return api.Pat{}, api.Fault{Err: api.ErrMuch}
	}
	return p, api.Fault{}
}

func count(p api.Pat, at int, nodes, depth *int) {
	*nodes++
	*depth = max(*depth, at)
	for _, kid := range p.Kids {
		count(kid, at+1, nodes, depth)
	}
}

// meet goes on by one sign, or tells why it can't.
func (m *model) meet(s sign, end int) api.Fault {
	form := api.Fault{Err: api.ErrForm, At: s.at}
	switch m.must {
	case "name":
		return m.meetName(s)
	case "open":
		if s.is != '(' {
			return form
		}
		if m.kind == api.PatArbno {
			return m.open(s, true)
		}
		m.must = "text"
		if in(numbered, m.kind) {
			m.must = "number"
		}
		return api.Fault{}
	case "number":
		return m.meetNumber(s)
	case "text":
		switch {
		case s.is == 'U':
			return api.Fault{Err: api.ErrForm, At: end}
		case s.is != 'Q':
			return form
		case s.text == "":
			return api.Fault{Err: api.ErrFit, At: s.at}
		}
		m.done(api.Pat{Kind: m.kind, Text: s.text})
		m.must = "close"
		return api.Fault{}
	case "close":
		if s.is != ')' {
			return form
		}
		m.must = "more"
		return api.Fault{}
	case "more":
		if ok, f := m.meetMore(s); ok {
			return f
		}
	}
	return m.meetPiece(s, end)
}

func (m *model) meetName(s sign) api.Fault {
	if s.is != 'W' {
		return api.Fault{Err: api.ErrForm, At: s.at}
	}
	if len(s.text) > 16 {
		return api.Fault{Err: api.ErrName, At: s.at}
	}
	p := api.Pat{Kind: m.kind, Name: s.text}
	if l := m.top(); m.kind == api.PatCond || m.kind == api.PatImm {
		p.Kids = []api.Pat{l.cats[len(l.cats)-1]}
		l.cats = l.cats[:len(l.cats)-1]
	}
	m.done(p)
	return api.Fault{}
}

func (m *model) meetNumber(s sign) api.Fault {
	if s.is != 'N' {
		return api.Fault{Err: api.ErrForm, At: s.at}
	}
	if s.text != "0" && s.text[0] == '0' {
		return api.Fault{Err: api.ErrForm, At: s.at + 1}
	}
	n, err := strconv.Atoi(s.text)
	if err != nil || n > 65536 {
		return api.Fault{Err: api.ErrRange, At: s.at}
	}
	m.done(api.Pat{Kind: m.kind, N: n})
	m.must = "close"
	return api.Fault{}
}

// meetMore is what may come behind a piece, but for another one.
func (m *model) meetMore(s sign) (bool, api.Fault) {
	switch s.is {
	case '|':
		m.top().bar()
		m.must = "piece"
	case '.':
		m.kind, m.must = api.PatCond, "name"
	case '$':
		m.kind, m.must = api.PatImm, "name"
	case ')':
		if len(m.levels) == 1 {
			return true, api.Fault{Err: api.ErrForm, At: s.at}
		}
		p := m.top().shut()
		if m.top().arbno {
			p = arbno(p)
		}
		m.levels = m.levels[:len(m.levels)-1]
		m.done(p)
	default:
		return false, api.Fault{}
	}
	return true, api.Fault{}
}

func (m *model) meetPiece(s sign, end int) api.Fault {
	switch s.is {
	case 'Q':
		m.done(lit(s.text))
	case 'U':
		return api.Fault{Err: api.ErrForm, At: end}
	case '@':
		m.kind, m.must = api.PatCursor, "name"
	case '*':
		m.kind, m.must = api.PatCall, "name"
	case '(':
		return m.open(s, false)
	case 'W':
		m.kind = modelWords[s.text]
		switch {
		case m.kind == 0:
			return api.Fault{Err: api.ErrName, At: s.at}
		case in(plain, m.kind):
			m.done(bare(m.kind))
		default:
			m.must = "open"
		}
	default:
		return api.Fault{Err: api.ErrForm, At: s.at}
	}
	return api.Fault{}
}

func (m *model) open(s sign, arbno bool) api.Fault {
	if len(m.levels)-1 == 200 {
		return api.Fault{Err: api.ErrMuch, At: s.at + 1}
	}
	m.levels = append(m.levels, &level{arbno: arbno})
	m.must = "piece"
	return api.Fault{}
}
