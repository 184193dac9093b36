package syntax

import (
	"strconv"
	"strings"

	"scanfail/api"
	"scanfail/pats"
)

// Print is s in a line, as it is read.
func Print(s api.Statement) (string, api.Errno) {
	if err := Wrong(s); err != api.OK {
		return "", err
	}
	pat := ""
	if s.Kind == api.StMatch || s.Kind == api.StReplace || s.Kind == api.StRule {
		p, err := pats.Print(s.Pat)
		if err != api.OK {
			return "", err
		}
		pat = "[" + p + "]"
	}
	var w writer
	w.statement(s, pat)
	switch {
	case w.feeds:
		return "", api.ErrForm
	case len(w.out) > api.MaxLine:
		return "", api.ErrMuch
	}
	return string(w.out), api.OK
}

// Show is the text of a program, as it is read, or what is wrong, and with which statement.
func Show(l []api.Statement) (string, api.Fault) {
	if len(l) > api.MaxLines {
		return "", api.Fault{Err: api.ErrMany}
	}
	var out []byte
	for i, s := range l {
		line, err := Print(s)
		if err != api.OK {
			return "", api.Fault{Err: err, At: i}
		}
		out = append(append(out, line...), '\n')
	}
	if len(out) > api.MaxText {
		return "", api.Fault{Err: api.ErrMuch}
	}
	return string(out), api.Fault{}
}

// writer writes a line, what is wrong with it told apart.
type writer struct {
	out   []byte
	feeds bool // whether there is a line feed in it, or would be
}

func (w *writer) put(l ...string) {
	for _, s := range l {
		w.feeds = w.feeds || strings.Contains(s, "\n")
		w.out = append(w.out, s...)
	}
}

// quoted writes a text in quotes; nothing of it where the line is too long already: many long texts would be more than memory holds.
func (w *writer) quoted(s string) {
	if len(w.out) <= api.MaxLine {
		w.put(pats.Quote(s))
	}
	w.feeds = w.feeds || strings.Contains(s, "\n")
}

// statement writes s, whose pattern, if it has one, is written so.
func (w *writer) statement(s api.Statement, pat string) {
	w.put(s.Label)
	if s.Kind != api.StEmpty {
		w.put(" ")
	}
	switch s.Kind {
	case api.StEval:
		w.expr(s.Value, anyLevel)
	case api.StAssign:
		w.expr(s.Target, anyLevel)
		w.put(" = ")
		w.expr(s.Value, anyLevel)
	case api.StMatch:
		w.expr(s.Value, anyLevel)
		w.put(" ? ", pat)
	case api.StReplace:
		w.expr(s.Target, anyLevel)
		w.put(" ? ", pat, " = ")
		w.expr(s.Value, anyLevel)
	case api.StRule:
		w.put(s.Name, " := ", pat)
	case api.StDefine:
		w.put("DEFINE ", s.Name, "(", strings.Join(s.Params, ","), ")", strings.Join(s.Locals, ","), " ", s.Entry)
	}
	w.waysOn(s)
}

func (w *writer) waysOn(s api.Statement) {
	if s.Always == "" && s.Yes == "" && s.Noes == "" {
		return
	}
	w.put(" :")
	w.wayOn("", s.Always)
	w.wayOn("S", s.Yes)
	w.wayOn("F", s.Noes)
}

func (w *writer) wayOn(when, label string) {
	if label != "" {
		w.put(when, "(", label, ")")
	}
}

// expr writes x where only something stands without brackets that holds together as tight as level says.
func (w *writer) expr(x api.Expr, level int) {
	if shapes[x.Kind].level >= level {
		w.bare(x)
		return
	}
	w.put("(")
	w.bare(x)
	w.put(")")
}

// bare writes x without brackets around it.
func (w *writer) bare(x api.Expr) {
	s := shapes[x.Kind]
	switch x.Kind {
	case api.ExText:
		w.quoted(x.Text)
	case api.ExNumber:
		w.put(strconv.FormatInt(x.N, 10))
	case api.ExName:
		w.put(x.Name)
	case api.ExItem:
		w.put(x.Name, "<")
		w.expr(x.Kids[0], anyLevel)
		w.put(">")
	case api.ExCall:
		w.call(x)
	case api.ExIndirect, api.ExNeg:
		w.put(s.sign)
		w.expr(x.Kids[0], s.level)
	default:
		// From the left: what holds together as tight may stand there as it is, but not on the right.
		w.expr(x.Kids[0], s.level)
		w.put(" ", s.sign, " ")
		w.expr(x.Kids[1], s.level+1)
	}
}

func (w *writer) call(x api.Expr) {
	w.put(x.Name, "(")
	for i, kid := range x.Kids {
		if i > 0 {
			w.put(", ")
		}
		w.expr(kid, anyLevel)
	}
	w.put(")")
}
