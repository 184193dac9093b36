package world

import (
	"scanfail/api"
	"scanfail/numbers"
	"scanfail/texts"
)

// arguments are texts, some of which are read as numbers.
type arguments struct {
	texts []string
	wrong bool // one that was read is no number
}

// number is the argument at a place, read as a number; if it is none, 0, and what is made of it does not count.
func (a *arguments) number(at int) int64 {
	n, err := numbers.Read(a.texts[at])
	if err != api.OK {
		a.wrong = true
	}
	return n
}

func (a *arguments) integer(at int) int { return int(a.number(at)) }

// right is what was made of the arguments, if all that were read as numbers are some.
func (a *arguments) right(text string, ok bool) (string, bool) {
	if a.wrong || !ok {
		return "", false
	}
	return text, true
}

// asText, asNumber and asInt turn what the layers below tell into a text that is there or not; when is nothing, if something is so.

func asText(text string, err api.Errno) (string, bool) { return text, err == api.OK }

func asNumber(n int64, err api.Errno) (string, bool) { return numbers.Print(n), err == api.OK }

func asInt(n int, err api.Errno) (string, bool) { return asNumber(int64(n), err) }

func when(so bool) (string, bool) { return "", so }

// reckon is what ExAdd, ExSub, ExMul, ExDiv or ExRem makes of two arguments.
func (a *arguments) reckon(kind int) (string, bool) {
	m, n := a.number(0), a.number(1)
	switch kind {
	case api.ExAdd:
		return asNumber(numbers.Add(m, n))
	case api.ExSub:
		return asNumber(numbers.Sub(m, n))
	case api.ExMul:
		return asNumber(numbers.Mul(m, n))
	case api.ExDiv:
		return asNumber(numbers.Div(m, n))
	}
	return asNumber(numbers.Rem(m, n))
}

// Two is what the kind of an expression makes of its two kids' texts.
func Two(kind int, a, b string) (string, bool) {
	if kind == api.ExCat {
		if len(a)+len(b) > api.MaxText {
			return "", false
		}
		return a + b, true
	}
	l := arguments{texts: []string{a, b}}
	return l.right(l.reckon(kind))
}

// Worked is what an expression that is an operator, or calls a function of the language, makes of its kids' texts.
func Worked(x *api.Expr, kids []string) (string, bool) {
	switch x.Kind {
	case api.ExCall:
		return Makes(x.Name, kids)
	case api.ExNeg:
		return Two(api.ExSub, "0", kids[0])
	}
	return Two(x.Kind, kids[0], kids[1])
}

// Makes is what a function of the language makes of texts, as many as it takes.
func Makes(name string, l []string) (string, bool) {
	a := arguments{texts: l}
	switch name {
	case "SIZE", "TRIM", "REVERSE", "REPLACE", "COUNT", "DUPL", "ROTATE", "SUBSTR", "LPAD", "RPAD":
		return a.right(a.ofTexts(name))
	case "ROOT", "REMDR", "POWER", "GCD", "BASE", "UNBASE":
		return a.right(a.ofNumbers(name))
	}
	return a.right(when(a.so(name)))
}

// ofTexts is what the functions of chapter 1 make.
func (a *arguments) ofTexts(name string) (string, bool) {
	text := a.texts[0]
	switch name {
	case "SIZE":
		return asInt(len(text), api.OK)
	case "TRIM":
		return asText(texts.Trim(text))
	case "REVERSE":
		return asText(texts.Reverse(text))
	case "REPLACE":
		return asText(texts.Replace(text, a.texts[1], a.texts[2]))
	case "COUNT":
		return asInt(texts.Count(text, a.texts[1]))
	case "DUPL":
		return asText(texts.Dupl(text, a.integer(1)))
	case "ROTATE":
		return asText(texts.Rotate(text, a.integer(1)))
	case "SUBSTR":
		return asText(texts.Substr(text, a.integer(1), a.integer(2)))
	case "LPAD":
		return asText(texts.Lpad(text, a.integer(1), a.texts[2]))
	}
	return asText(texts.Rpad(text, a.integer(1), a.texts[2]))
}

// ofNumbers is what the functions of chapter 2 make.
func (a *arguments) ofNumbers(name string) (string, bool) {
	switch name {
	case "ROOT":
		return asNumber(numbers.Root(a.number(0)))
	case "REMDR":
		return a.reckon(api.ExRem)
	case "POWER":
		return asNumber(numbers.Power(a.number(0), a.number(1)))
	case "GCD":
		return asNumber(numbers.Gcd(a.number(0), a.number(1)))
	case "BASE":
		return asText(numbers.Base(a.number(0), a.integer(1)))
	}
	return asNumber(numbers.Unbase(a.texts[0], a.integer(1)))
}

// so is whether what the functions ask that make nothing is so.
func (a *arguments) so(name string) bool {
	switch name {
	case "IDENT":
		return a.texts[0] == a.texts[1]
	case "DIFFER":
		return a.texts[0] != a.texts[1]
	case "LGT":
		order, _ := texts.Compare(a.texts[0], a.texts[1])
		return order > 0
	case "INTEGER":
		a.number(0)
		return true
	}
	m, n := a.number(0), a.number(1)
	switch name {
	case "EQ":
		return m == n
	case "NE":
		return m != n
	case "LT":
		return m < n
	case "LE":
		return m <= n
	case "GT":
		return m > n
	}
	return m >= n
}
