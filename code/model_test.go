package code_test

import (
	"slices"
	"strconv"

	"scanfail/api"
)

// The model lays each statement's instructions apart, with labels yet to be found; where they begin is reckoned from how many there are.

// piece is a statement's instructions: its body's, and the labels of its ways on.
type piece struct {
	body []api.Instr
	ways []string
}

func modelPiece(at int, s api.Statement) piece {
	p := piece{body: modelBody(at, s)}
	switch {
	case s.Always != "":
		p.ways = []string{s.Always}
	case s.Yes == s.Noes:
		p.ways = []string{s.Yes}
	default:
		p.ways = []string{s.Yes, s.Noes}
	}
	return p
}

func modelBody(at int, s api.Statement) []api.Instr {
	switch s.Kind {
	case api.StEval:
		return append(modelValue(s.Value), drop())
	case api.StMatch:
		return append(modelValue(s.Value), match(at))
	case api.StAssign:
		return slices.Concat(modelPlace(s.Target), modelValue(s.Value), []api.Instr{write()})
	case api.StReplace:
		return slices.Concat(modelPlace(s.Target), []api.Instr{look(), find(at)}, modelValue(s.Value), []api.Instr{mend(), write()})
	case api.StRule:
		return []api.Instr{rule(at)}
	}
	return nil
}

func modelValue(x api.Expr) []api.Instr {
	var kids []api.Instr
	for _, kid := range x.Kids {
		kids = slices.Concat(kids, modelValue(kid))
	}
	switch x.Kind {
	case api.ExText:
		return []api.Instr{text(x.Text)}
	case api.ExNumber:
		return []api.Instr{text(strconv.FormatInt(x.N, 10))}
	case api.ExName:
		return []api.Instr{read(x.Name)}
	case api.ExItem:
		return append(kids, item(x.Name))
	case api.ExIndirect:
		return append(kids, name())
	case api.ExNeg:
		return slices.Concat([]api.Instr{text("0")}, kids, []api.Instr{two(api.ExSub)})
	case api.ExCall:
		if slices.Contains(ofTheLanguage, x.Name) {
			return append(kids, makes(x.Name, len(x.Kids)))
		}
		return append(kids, call(x.Name, len(x.Kids)))
	}
	return append(kids, two(x.Kind))
}

// ofTheLanguage are the functions of the language.
var ofTheLanguage = []string{
	"SIZE", "TRIM", "REVERSE", "ROOT", "INTEGER", "DUPL", "ROTATE", "COUNT", "EQ", "NE", "LT", "LE", "GT", "GE",
	"IDENT", "DIFFER", "LGT", "REMDR", "POWER", "GCD", "BASE", "UNBASE", "REPLACE", "SUBSTR", "LPAD", "RPAD",
}

func modelPlace(x api.Expr) []api.Instr {
	switch x.Kind {
	case api.ExItem:
		return append(modelValue(x.Kids[0]), entry(x.Name))
	case api.ExIndirect:
		return append(modelValue(x.Kids[0]), where())
	}
	return []api.Instr{variable(x.Name)}
}

// modelMake is the instructions of a program in which nothing is wrong, and where its statements begin.
func modelMake(l []api.Statement) ([]api.Instr, []int) {
	var pieces []piece
	starts := []int{0}
	labels := map[string]int{}
	for at, s := range l {
		p := modelPiece(at, s)
		pieces = append(pieces, p)
		starts = append(starts, starts[at]+1+len(p.body)+len(p.ways))
		labels[s.Label] = at
	}
	var out []api.Instr
	for at, p := range pieces {
		out = append(out, step(at, starts[at+1]-1))
		out = append(out, p.body...)
		labels[""] = at + 1
		for _, label := range p.ways {
			switch label {
			case "END":
				out = append(out, end())
			case "RETURN":
				out = append(out, returns())
			case "FRETURN":
				out = append(out, fails())
			default:
				out = append(out, jump(starts[labels[label]]))
			}
		}
	}
	return append(out, end()), starts[:len(l)]
}
