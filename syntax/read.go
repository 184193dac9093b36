package syntax

import (
	"strconv"

	"scanfail/api"
	"scanfail/pats"
)

// readAll reads a line's tokens to the last one; what the reader throws on its way is caught here, and then s is nothing to go by.
func readAll(text string, tokens []api.Token) (s api.Statement, fault api.Fault) {
	defer func() {
		if thrown := recover(); thrown != nil {
			fault = thrown.(api.Fault)
		}
	}()
	r := reader{tokens: tokens, end: len(text), between: signsBetween()}
	if text != "" && text[0] != ' ' && text[0] != ':' {
		s.Label = r.name()
	}
	r.deed(&s)
	r.waysOn(&s)
	if len(r.tokens) > 0 {
		r.stop()
	}
	return s, api.Fault{}
}

// signsBetween are the kinds that signs make of what stands on both sides of them.
func signsBetween() map[string]int {
	kinds := map[string]int{}
	for kind := api.ExCat; kind <= api.ExRem; kind++ {
		kinds[shapes[kind].sign] = kind
	}
	return kinds
}

// reader reads tokens from the first one on. What it meets that is wrong it throws, as a fault.
type reader struct {
	tokens  []api.Token // those that are still to be read
	end     int         // where the line ends
	open    int         // expressions, and signs ahead of something, that are open
	between map[string]int
}

func throw(err api.Errno, at int) {
	panic(api.Fault{Err: err, At: at})
}

// stop tells that it cannot go on with what comes next.
func (r *reader) stop() { throw(api.ErrForm, r.at()) }

// ahead is the token that comes behind so many others; behind the last one there are some of no kind.
func (r *reader) ahead(n int) api.Token {
	if n >= len(r.tokens) {
		return api.Token{At: r.end}
	}
	return r.tokens[n]
}

func (r *reader) token() api.Token { return r.ahead(0) }

// at is where begins what comes next.
func (r *reader) at() int { return r.token().At }

func (r *reader) pass() { r.tokens = r.tokens[1:] }

func isSign(t api.Token, sign string) bool { return t.Kind == api.TokSign && t.Text == sign }

func isWord(t api.Token, word string) bool { return t.Kind == api.TokWord && t.Text == word }

// take goes behind the next token, if it is this sign.
func (r *reader) take(sign string) bool {
	if !isSign(r.token(), sign) {
		return false
	}
	r.pass()
	return true
}

// need goes behind the next token, which must be this sign.
func (r *reader) need(sign string) {
	if !r.take(sign) {
		r.stop()
	}
}

// name reads a name: any word that is short enough.
func (r *reader) name() string {
	t := r.token()
	if t.Kind != api.TokWord {
		r.stop()
	}
	if !pats.Named(t.Text) {
		throw(api.ErrName, t.At)
	}
	r.pass()
	return t.Text
}

// names reads names with commas between.
func (r *reader) names() []string {
	var out []string
	for {
		at := r.at()
		name := r.name()
		if len(out) == api.MaxArgs {
			throw(api.ErrMany, at)
		}
		out = append(out, name)
		if !r.take(",") {
			return out
		}
	}
}

func (r *reader) pattern() api.Pat {
	t := r.token()
	if t.Kind != api.TokPattern {
		r.stop()
	}
	p, fault := pats.Read(t.Text)
	if fault.Err != api.OK {
		throw(fault.Err, t.At+len("[")+fault.At)
	}
	r.pass()
	return p
}

// deed reads what a line does.
func (r *reader) deed(s *api.Statement) {
	first, second := r.ahead(0), r.ahead(1)
	switch {
	case first.Kind == 0 || isSign(first, ":"):
		s.Kind = api.StEmpty
	case isWord(first, "DEFINE") && second.Kind == api.TokWord:
		r.define(s)
	case first.Kind == api.TokWord && isSign(second, ":="):
		s.Kind = api.StRule
		s.Name = r.name()
		r.need(":=")
		s.Pat = r.pattern()
	default:
		r.evaluation(s)
	}
}

// define reads a function's definition, from its first word on.
func (r *reader) define(s *api.Statement) {
	r.pass()
	s.Kind = api.StDefine
	s.Name = r.name()
	r.need("(")
	if !r.take(")") {
		s.Params = r.names()
		r.need(")")
	}
	// A name alone is Entry; only what follows it tells that it is the first one of Locals.
	if second := r.ahead(1); second.Kind == api.TokWord || isSign(second, ",") {
		s.Locals = r.names()
	}
	s.Entry = r.name()
}

// evaluation reads what begins with an expression.
func (r *reader) evaluation(s *api.Statement) {
	at := r.at()
	x := r.expression()
	matches := r.take("?")
	if matches {
		s.Pat = r.pattern()
	}
	gives := r.take("=")
	if gives && !isPlace(x.Kind) {
		throw(api.ErrFit, at)
	}
	s.Kind = evaluationKind(matches, gives)
	s.Value = x
	if gives {
		s.Target, s.Value = x, r.expression()
	}
}

func evaluationKind(matches, gives bool) int {
	switch {
	case matches && gives:
		return api.StReplace
	case matches:
		return api.StMatch
	case gives:
		return api.StAssign
	}
	return api.StEval
}

// waysOn reads where a line goes on, if it tells that.
func (r *reader) waysOn(s *api.Statement) {
	if !r.take(":") {
		return
	}
	if isSign(r.token(), "(") {
		s.Always = r.wayOn()
		return
	}
	yes := isWord(r.token(), "S")
	if yes {
		r.pass()
		s.Yes = r.wayOn()
	}
	if isWord(r.token(), "F") {
		r.pass()
		s.Noes = r.wayOn()
	} else if !yes {
		r.stop()
	}
}

// wayOn reads a label in brackets.
func (r *reader) wayOn() string {
	r.need("(")
	label := r.name()
	r.need(")")
	return label
}

// enter counts one more that is open, whatever comes next.
func (r *reader) enter() {
	r.open++
	if r.open > api.MaxDeep {
		throw(api.ErrMuch, r.at())
	}
}

func (r *reader) leave() { r.open-- }

func (r *reader) expression() api.Expr {
	r.enter()
	x := r.row(catLevel)
	r.leave()
	return x
}

// row reads what holds together as tight as level says, or tighter.
func (r *reader) row(level int) api.Expr {
	if level == signedLevel {
		return r.signed()
	}
	x := r.row(level + 1)
	for {
		kind := r.kindBetween(level)
		if kind == 0 {
			return x
		}
		r.pass()
		x = api.Expr{Kind: kind, Kids: []api.Expr{x, r.row(level + 1)}}
	}
}

// kindBetween is the kind that the next token makes of what stands on both sides of it, if it is a sign of this level; else 0.
func (r *reader) kindBetween(level int) int {
	t := r.token()
	kind := r.between[t.Text]
	if t.Kind != api.TokSign || shapes[kind].level != level {
		return 0
	}
	return kind
}

// signed reads a piece and what stands ahead of it.
func (r *reader) signed() api.Expr {
	if !r.take("-") {
		return r.piece()
	}
	r.enter()
	x := r.signed()
	r.leave()
	return api.Expr{Kind: api.ExNeg, Kids: []api.Expr{x}}
}

func (r *reader) piece() api.Expr {
	t := r.token()
	switch {
	case t.Kind == api.TokWord:
		return r.namedPiece()
	case t.Kind == api.TokNumber:
		return api.Expr{Kind: api.ExNumber, N: r.number()}
	case t.Kind == api.TokText:
		r.pass()
		return api.Expr{Kind: api.ExText, Text: t.Text}
	case r.take("$"):
		r.enter()
		x := r.piece()
		r.leave()
		return api.Expr{Kind: api.ExIndirect, Kids: []api.Expr{x}}
	}
	r.need("(")
	x := r.expression()
	r.need(")")
	return x
}

// namedPiece reads a piece that begins with a name.
func (r *reader) namedPiece() api.Expr {
	x := api.Expr{Kind: api.ExName, Name: r.name()}
	switch {
	case r.take("<"):
		x.Kind = api.ExItem
		x.Kids = []api.Expr{r.expression()}
		r.need(">")
	case r.take("("):
		x.Kind = api.ExCall
		x.Kids = r.arguments()
	}
	return x
}

// arguments reads what is handed to a function, and the bracket behind it.
func (r *reader) arguments() []api.Expr {
	if r.take(")") {
		return nil
	}
	var out []api.Expr
	for {
		if len(out) == api.MaxArgs {
			r.tooMany()
		}
		out = append(out, r.expression())
		if !r.take(",") {
			r.need(")")
			return out
		}
	}
}

// tooMany tells that one expression too many begins here. That its first token is wrong is met just there, too, and is told ahead of it.
func (r *reader) tooMany() {
	t := r.token()
	switch t.Kind {
	case api.TokWord:
		r.name()
	case api.TokNumber:
		r.number()
	case api.TokText:
	default:
		if !isSign(t, "-") && !isSign(t, "$") && !isSign(t, "(") {
			r.stop()
		}
	}
	throw(api.ErrMany, t.At)
}

func (r *reader) number() int64 {
	t := r.token()
	if len(t.Text) > 1 && t.Text[0] == '0' {
		r.stop()
	}
	n, err := strconv.ParseInt(t.Text, 10, 64)
	if err != nil { // of digits alone: there are too many
		throw(api.ErrRange, t.At)
	}
	r.pass()
	return n
}
