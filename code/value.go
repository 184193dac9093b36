package code

import (
	"strings"

	"scanfail/api"
	"scanfail/check"
	"scanfail/numbers"
)

// value lays what puts an expression's text on the stack.
func (m *maker) value(x *api.Expr) {
	if x.Kind == api.ExNeg {
		m.add(api.Instr{Op: api.OpText, Text: "0"}) // less a kid is nought with the kid taken away
	}
	for i := range x.Kids {
		m.value(&x.Kids[i])
	}
	m.add(last(x))
}

// last is the instruction behind those of an expression's kids. Texts of the program are copied: an instruction shares no memory with it.
func last(x *api.Expr) api.Instr {
	switch x.Kind {
	case api.ExText:
		return api.Instr{Op: api.OpText, Text: strings.Clone(x.Text)}
	case api.ExNumber:
		return api.Instr{Op: api.OpText, Text: numbers.Print(x.N)}
	case api.ExName:
		return named(api.OpRead, x)
	case api.ExItem:
		return named(api.OpItem, x)
	case api.ExIndirect:
		return api.Instr{Op: api.OpName}
	case api.ExCall:
		return call(x)
	case api.ExNeg:
		return api.Instr{Op: api.OpTwo, N: api.ExSub}
	}
	return api.Instr{Op: api.OpTwo, N: x.Kind}
}

func call(x *api.Expr) api.Instr {
	op := api.OpCall
	if check.Builtin(x.Name) >= 0 {
		op = api.OpMake
	}
	i := named(op, x)
	i.N = len(x.Kids)
	return i
}

func named(op int, x *api.Expr) api.Instr {
	return api.Instr{Op: op, Text: strings.Clone(x.Name)}
}

// place lays what puts an expression's place on the places.
func (m *maker) place(x *api.Expr) {
	for i := range x.Kids {
		m.value(&x.Kids[i])
	}
	switch x.Kind {
	case api.ExName:
		m.add(named(api.OpVar, x))
	case api.ExItem:
		m.add(named(api.OpEntry, x))
	case api.ExIndirect:
		m.add(api.Instr{Op: api.OpWhere})
	}
}
