package pats

import (
	"strconv"
	"strings"

	"scanfail/api"
)

// Quote is s in quotes, as it is read.
func Quote(s string) string {
	return "'" + strings.ReplaceAll(s, "'", "''") + "'"
}

// Print is p in a text, as it is read.
func Print(p api.Pat) (string, api.Errno) {
	if err := Wrong(p); err != api.OK {
		return "", err
	}
	out := appendPat(nil, p)
	if len(out) > api.MaxText {
		return "", api.ErrMuch
	}
	return string(out), api.OK
}

// appendPat puts p behind out, or nothing of it where out is too long already: many long texts would be more than memory holds.
func appendPat(out []byte, p api.Pat) []byte {
	if len(out) > api.MaxText {
		return out
	}
	switch p.Kind {
	case api.PatLit:
		return append(out, Quote(p.Text)...)
	case api.PatCat:
		return appendKids(out, p, " ")
	case api.PatAlt:
		return appendKids(out, p, " | ")
	case api.PatCond:
		return append(append(appendKids(out, p, ""), " . "...), p.Name...)
	case api.PatImm:
		return append(append(appendKids(out, p, ""), " $ "...), p.Name...)
	case api.PatCursor:
		return append(append(out, '@'), p.Name...)
	case api.PatCall:
		return append(append(out, '*'), p.Name...)
	}
	return appendWorded(out, p)
}

// appendWorded puts a pattern behind out that begins with its kind's word.
func appendWorded(out []byte, p api.Pat) []byte {
	s := shapes[p.Kind]
	out = append(out, s.word...)
	switch {
	case s.has == hasNumber:
		return append(strconv.AppendInt(append(out, '('), int64(p.N), 10), ')')
	case s.has == hasText:
		return append(append(append(out, '('), Quote(p.Text)...), ')')
	case p.Kind == api.PatArbno:
		return append(appendPat(append(out, '('), p.Kids[0]), ')')
	}
	return out
}

// appendKids puts the kids of p behind out, with what stands between two, and in brackets those that would be read otherwise without.
func appendKids(out []byte, p api.Pat, between string) []byte {
	for i, kid := range p.Kids {
		if i > 0 {
			out = append(out, between...)
		}
		if needsBrackets(p.Kind, kid.Kind) {
			out = append(appendPat(append(out, '('), kid), ')')
		} else {
			out = appendPat(out, kid)
		}
	}
	return out
}

// needsBrackets tells whether a kid stands in brackets within a parent that is neither PatArbno, which has its own, nor without kids.
func needsBrackets(parent, kid int) bool {
	return kid == api.PatAlt || kid == api.PatCat && parent != api.PatAlt
}
