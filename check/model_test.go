package check_test

import (
	"strings"

	"scanfail/api"
	"scanfail/syntax"
)

// The model knows nothing ahead: it asks the whole list anew for each question, and takes the least of all faults that there are.

// modelFault is a fault, and in which round it is found, and as which one of its statement's.
type modelFault struct{ round, at, place, err int }

func less(a, b modelFault) bool {
	for _, d := range []int{a.round - b.round, a.at - b.at, a.place - b.place} {
		if d != 0 {
			return d < 0
		}
	}
	return false
}

// countIf is how many statements are so.
func countIf(l []api.Statement, so func(api.Statement) bool) int {
	n := 0
	for _, s := range l {
		if so(s) {
			n++
		}
	}
	return n
}

func amongWords(words, s string) bool {
	return s != "" && strings.Contains(" "+words+" ", " "+s+" ")
}

func modelCheck(l []api.Statement) api.Fault {
	if len(l) > 1000 {
		return api.Fault{Err: api.ErrMany}
	}
	var all []modelFault
	for at, s := range l {
		if err := syntax.Wrong(s); err != api.OK {
			all = append(all, modelFault{1, at, 0, int(err)})
		}
	}
	if len(all) == 0 {
		for at := range l {
			all = append(all, nameFaults(l, at)...)
			all = append(all, leadFaults(l, at)...)
		}
	}
	if len(all) == 0 {
		return api.Fault{}
	}
	least := all[0]
	for _, f := range all {
		if less(f, least) {
			least = f
		}
	}
	return api.Fault{Err: api.Errno(least.err), At: least.at}
}

func nameFaults(l []api.Statement, at int) []modelFault {
	s, fault := l[at], []modelFault{{2, at, 0, int(api.ErrName)}}
	if amongWords("END RETURN FRETURN", s.Label) || s.Label != "" && countIf(l[:at], func(x api.Statement) bool { return x.Label == s.Label }) > 0 {
		return fault
	}
	if s.Kind != 7 {
		return nil
	}
	if amongWords(strings.Join(builtins, " "), s.Name) || countIf(l[:at], func(x api.Statement) bool { return x.Kind == 7 && x.Name == s.Name }) > 0 {
		return fault
	}
	own := append([]string{s.Name}, s.Params...)
	own = append(own, s.Locals...)
	for i, a := range own {
		for _, b := range append([]string{"INPUT", "OUTPUT"}, own[:i]...) {
			if a == b {
				return fault
			}
		}
	}
	return nil
}

func leadFaults(l []api.Statement, at int) []modelFault {
	var out []modelFault
	s := l[at]
	nobody := func(label string) bool {
		return countIf(l, func(x api.Statement) bool { return x.Label == label }) == 0
	}
	for _, label := range []string{s.Always, s.Yes, s.Noes} {
		if label != "" && !amongWords("END RETURN FRETURN", label) && nobody(label) {
			out = append(out, modelFault{3, at, 0, int(api.ErrNone)})
		}
	}
	if s.Kind == 7 && nobody(s.Entry) {
		out = append(out, modelFault{3, at, 0, int(api.ErrNone)})
	}
	for i, x := range modelNodes(s) {
		if err := modelCall(l, x); err != api.OK {
			out = append(out, modelFault{3, at, 1 + i, int(err)})
		}
	}
	return out
}

// modelNodes are all nodes of a statement's expressions, by a stack.
func modelNodes(s api.Statement) []api.Expr {
	stack := map[int][]api.Expr{2: {s.Value}, 4: {s.Value}, 3: {s.Value, s.Target}, 5: {s.Value, s.Target}}[s.Kind]
	var out []api.Expr
	for len(stack) > 0 {
		x := stack[len(stack)-1]
		stack = stack[:len(stack)-1]
		out = append(out, x)
		for i := len(x.Kids) - 1; i >= 0; i-- {
			stack = append(stack, x.Kids[i])
		}
	}
	return out
}

func modelCall(l []api.Statement, x api.Expr) api.Errno {
	if x.Kind != 6 {
		return api.OK
	}
	for n, words := range builtins {
		if amongWords(words, x.Name) {
			if n == len(x.Kids) {
				return api.OK
			}
			return api.ErrMany
		}
	}
	for _, s := range l {
		if s.Kind == 7 && s.Name == x.Name {
			if len(x.Kids) <= len(s.Params) {
				return api.OK
			}
			return api.ErrMany
		}
	}
	return api.ErrName
}

// leads tells whether one statement leads to another one, in a program that is right.
func leads(l []api.Statement, from, to int) bool {
	s, label := l[from], l[to].Label
	if label == "" {
		label = "no label"
	}
	next := from+1 == to
	fails := s.Kind >= 2 && s.Kind <= 5
	switch {
	case s.Always == label:
		return true
	case s.Always == "" && (s.Yes == label || s.Yes == "" && next):
		return true
	case s.Always == "" && fails && (s.Noes == label || s.Noes == "" && next):
		return true
	}
	for _, x := range modelNodes(s) {
		if x.Kind == 6 && countIf(l, func(d api.Statement) bool { return d.Kind == 7 && d.Name == x.Name && d.Entry == label }) > 0 {
			return true
		}
	}
	return false
}

// modelReached goes over all statements again and again, until nothing more is come to.
func modelReached(l []api.Statement) []bool {
	out := make([]bool, len(l))
	if len(l) > 0 {
		out[0] = true
	}
	for again := true; again; {
		again = false
		for to := range l {
			for from := range l {
				if !out[to] && out[from] && leads(l, from, to) {
					out[to], again = true, true
				}
			}
		}
	}
	return out
}
