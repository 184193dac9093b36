package pats

import (
	"strings"

	"scanfail/api"
)

// Read is the pattern that text tells, or what is wrong with it, and where.
func Read(text string) (api.Pat, api.Fault) {
	if len(text) > api.MaxText {
		return api.Pat{}, api.Fault{Err: api.ErrMuch}
	}
	p, fault := readAll(text)
	if fault.Err != api.OK {
		return api.Pat{}, fault
	}
	if _, _, err := Size(p); err != api.OK {
		return api.Pat{}, api.Fault{Err: err}
	}
	return p, api.Fault{}
}

// readAll reads text to its end; what the reader throws on its way is caught here, and then p is nothing to go by.
func readAll(text string) (p api.Pat, fault api.Fault) {
	defer func() {
		if thrown := recover(); thrown != nil {
			fault = thrown.(api.Fault)
		}
	}()
	r := reader{text: text}
	p = r.alternatives() // and the blanks behind them
	if r.at < len(text) {
		r.stop()
	}
	return p, api.Fault{}
}

// reader reads a text from its beginning on. What it meets that is wrong it throws, as a fault.
type reader struct {
	text string
	at   int // up to where it has read
	open int // brackets around patterns that are open there
}

func throw(err api.Errno, at int) {
	panic(api.Fault{Err: err, At: at})
}

// stop tells that it cannot go on where it is.
func (r *reader) stop() { throw(api.ErrForm, r.at) }

// here is the byte where the reader is; at the end 0, with which nothing goes on either.
func (r *reader) here() byte {
	if r.at == len(r.text) {
		return 0
	}
	return r.text[r.at]
}

// next is the byte with which the next sign begins.
func (r *reader) next() byte {
	for r.here() == ' ' {
		r.at++
	}
	return r.here()
}

// take goes behind the next sign, which must be this byte.
func (r *reader) take(sign byte) {
	if r.next() != sign {
		r.stop()
	}
	r.at++
}

func (r *reader) alternatives() api.Pat {
	kids := []api.Pat{r.pieces()}
	for r.next() == '|' {
		r.at++
		kids = append(kids, r.pieces())
	}
	return together(api.PatAlt, kids)
}

func (r *reader) pieces() api.Pat {
	kids := []api.Pat{r.piece()}
	for beginsPiece(r.next()) {
		kids = append(kids, r.piece())
	}
	return together(api.PatCat, kids)
}

func together(kind int, kids []api.Pat) api.Pat {
	if len(kids) == 1 {
		return kids[0]
	}
	return api.Pat{Kind: kind, Kids: kids}
}

func beginsPiece(b byte) bool {
	return isLetter(b) || b == '\'' || b == '(' || b == '@' || b == '*'
}

// piece reads a piece and the names that are given it.
func (r *reader) piece() api.Pat {
	p := r.bare()
	for {
		kind := giving(r.next())
		if kind == 0 {
			return p
		}
		r.at++
		p = api.Pat{Kind: kind, Name: r.name(), Kids: []api.Pat{p}}
	}
}

// giving is the kind of what gives a piece to a name by this sign, or 0.
func giving(sign byte) int {
	switch sign {
	case '.':
		return api.PatCond
	case '$':
		return api.PatImm
	}
	return 0
}

// bare reads a piece without the names that are given it.
func (r *reader) bare() api.Pat {
	switch b := r.next(); {
	case b == '\'':
		return api.Pat{Kind: api.PatLit, Text: r.quoted()}
	case b == '(':
		return r.bracketed()
	case b == '@':
		r.at++
		return api.Pat{Kind: api.PatCursor, Name: r.name()}
	case b == '*':
		r.at++
		return api.Pat{Kind: api.PatCall, Name: r.name()}
	case !isLetter(b):
		r.stop()
	}
	return r.worded()
}

// worded reads a piece that begins with its kind's word.
func (r *reader) worded() api.Pat {
	at := r.at
	p := api.Pat{Kind: kindOf(r.word())}
	switch {
	case p.Kind == 0:
		throw(api.ErrName, at)
	case p.Kind == api.PatArbno:
		p.Kids = []api.Pat{r.bracketed()}
	case shapes[p.Kind].has == hasNumber:
		r.take('(')
		p.N = r.number()
		r.take(')')
	case shapes[p.Kind].has == hasText:
		r.take('(')
		p.Text = r.filled()
		r.take(')')
	}
	return p
}

// kindOf is the kind that has this word, or 0.
func kindOf(word string) int {
	for kind := api.PatLit; kind <= api.PatCall; kind++ {
		if shapes[kind].word == word {
			return kind
		}
	}
	return 0
}

// bracketed reads alternatives in brackets.
func (r *reader) bracketed() api.Pat {
	r.take('(')
	if r.open == api.MaxDepth {
		throw(api.ErrMuch, r.at)
	}
	r.open++
	p := r.alternatives()
	r.take(')')
	r.open--
	return p
}

// name reads a name: any word that is short enough, a kind's too.
func (r *reader) name() string {
	if !isLetter(r.next()) {
		r.stop()
	}
	at := r.at
	s := r.word()
	if len(s) > api.MaxName {
		throw(api.ErrName, at)
	}
	return strings.Clone(s)
}

// word reads the letters and digits that follow one another here; it lies in the text.
func (r *reader) word() string {
	from := r.at
	for isLetter(r.here()) || isDigit(r.here()) {
		r.at++
	}
	return r.text[from:r.at]
}

func (r *reader) number() int {
	if !isDigit(r.next()) {
		r.stop()
	}
	from, n := r.at, 0
	for isDigit(r.here()) {
		if r.at > from && r.text[from] == '0' {
			r.stop()
		}
		// It grows no further than it takes to be too large, lest it wrap round.
		n = min(10*n+int(r.here()-'0'), api.MaxText+1)
		r.at++
	}
	if n > api.MaxText {
		throw(api.ErrRange, from)
	}
	return n
}

// filled reads a text in quotes that is not empty.
func (r *reader) filled() string {
	if r.next() != '\'' {
		r.stop()
	}
	at := r.at
	s := r.quoted()
	if s == "" {
		throw(api.ErrFit, at)
	}
	return s
}

// quoted reads the text in quotes that begins here.
func (r *reader) quoted() string {
	var out []byte
	for r.at++; r.at < len(r.text); r.at++ {
		if r.text[r.at] == '\'' {
			r.at++
			if r.here() != '\'' {
				return string(out)
			}
		}
		out = append(out, r.text[r.at])
	}
	r.stop()
	return ""
}
