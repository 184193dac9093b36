package desk_test

import (
	"fmt"
	"regexp"
	"slices"
	"strings"

	"scanfail/api"
	"scanfail/fold"
	"scanfail/pats"
	"scanfail/run"
	"scanfail/syntax"
)

// model is a desk of another make: it has nothing but the lines that have changed something, and does all of them anew for each question; an undo crosses out the last one.
type model struct{ changes []string }

// shelf is what stands on the model's desk: programs in the order in which they came.
type shelf []kept

type kept struct {
	name       string
	statements []api.Statement
	input      []string
}

var (
	words   = regexp.MustCompile(`^(?:new|line|input|quick|drop|list|run)(?: |$)|^undo$`)
	short   = regexp.MustCompile(`(?s)^(new|quick|drop|list|run) ([^ ]*)$`)
	long    = regexp.MustCompile(`(?s)^(line|input) ([^ ]*) (.*)$`)
	changed = "ok"
)

func (m *model) do(line string) string {
	switch {
	case len(line) > api.MaxLine:
		return wrong(api.ErrMuch)
	case line == "undo" && len(m.changes) == 0:
		return wrong(api.ErrState)
	case !words.MatchString(line):
		return wrong(api.ErrKind)
	case line == "undo":
		m.changes = m.changes[:len(m.changes)-1]
		return changed
	}
	answer, _ := m.now().told(line)
	if answer == changed {
		m.changes = append(m.changes, line)
	}
	return answer
}

// now is what stands there when all changes have been made.
func (m *model) now() shelf {
	var s shelf
	for _, line := range m.changes {
		_, s = s.told(line)
	}
	return s
}

// told is what is answered to a line of the right length that begins with a word, and what stands there then.
func (s shelf) told(line string) (string, shelf) {
	parts := short.FindStringSubmatch(line)
	if parts == nil {
		if parts = long.FindStringSubmatch(line); parts == nil {
			return wrong(api.ErrForm), s
		}
	}
	word, name := parts[1], parts[2]
	at := slices.IndexFunc(s, func(k kept) bool { return k.name == name })
	if word == "new" {
		return s.begun(name, at)
	}
	if at < 0 {
		return wrong(api.ErrName), s
	}
	switch k := s[at]; word {
	case "line":
		return s.longer(at, parts[3])
	case "input":
		if len(k.input) >= api.MaxInput {
			return wrong(api.ErrMany), s
		}
		k.input = append(slices.Clone(k.input), parts[3])
		return changed, s.with(at, k)
	case "quick":
		l, fault := fold.Program(k.statements)
		if fault.Err != api.OK {
			return wrong(fault.Err), s
		}
		k.statements = l
		return changed, s.with(at, k)
	case "drop":
		return changed, slices.Concat(s[:at], s[at+1:])
	case "list":
		text, fault := syntax.Show(k.statements)
		if fault.Err != api.OK {
			return wrong(fault.Err), s
		}
		return text, s
	}
	return s[at].ran(), s
}

func (s shelf) begun(name string, at int) (string, shelf) {
	switch {
	case !pats.Named(name):
		return wrong(api.ErrForm), s
	case at >= 0:
		return wrong(api.ErrName), s
	case len(s) >= api.MaxNamed:
		return wrong(api.ErrMany), s
	}
	return changed, append(slices.Clone(s), kept{name: name})
}

func (s shelf) longer(at int, text string) (string, shelf) {
	l, some, fault := syntax.Line(text)
	k := s[at]
	switch {
	case fault.Err != api.OK:
		return wrong(fault.Err), s
	case !some:
		return wrong(api.ErrForm), s
	case len(k.statements) >= api.MaxLines:
		return wrong(api.ErrMany), s
	}
	k.statements = append(slices.Clone(k.statements), l)
	return changed, s.with(at, k)
}

// with is the shelf with another program at a place.
func (s shelf) with(at int, k kept) shelf {
	s = slices.Clone(s)
	s[at] = k
	return s
}

// ran is what a run tells, by chapter 12.
func (k kept) ran() string {
	r, _, fault := run.Run(k.statements, k.input, api.DeskLimit)
	if fault.Err != api.OK {
		return wrong(fault.Err)
	}
	return strings.Join(append(r.Output, fmt.Sprintf("ended %d %d", r.How, r.Steps)), "\n")
}
