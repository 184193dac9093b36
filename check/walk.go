package check

import "scanfail/api"

// walk goes through a program in which nothing is wrong.
type walk struct {
	*checker
	reached []bool
	open    []int // statements that are come to, and from which it is still to go on
}

// comeTo tells of each statement of a program in which nothing is wrong whether it is come to.
func comeTo(c *checker) []bool {
	w := walk{checker: c, reached: make([]bool, len(c.program))}
	w.come(0)
	for len(w.open) > 0 {
		at := w.open[len(w.open)-1]
		w.open = w.open[:len(w.open)-1]
		w.goOn(at)
	}
	return w.reached
}

// come comes to a statement, or to what is behind the last one.
func (w *walk) come(at int) {
	if at < len(w.reached) && !w.reached[at] {
		w.reached[at] = true
		w.open = append(w.open, at)
	}
}

// goOn comes to all that a statement leads to.
func (w *walk) goOn(at int) {
	s := w.program[at]
	if s.Always != "" {
		w.lead(s.Always, at)
	} else {
		w.lead(s.Yes, at)
		if canFail(s.Kind) {
			w.lead(s.Noes, at)
		}
	}
	eachCall(expressions(s), w.enter)
}

// lead comes to where a label leads from a statement; an empty one leads to the next one.
func (w *walk) lead(label string, from int) {
	switch {
	case label == "":
		w.come(from + 1)
	case !leadsOut(label):
		w.come(w.labels[label])
	}
}

// enter comes to where the function that is called begins; those of the language begin nowhere.
func (w *walk) enter(call api.Expr) {
	if w.isFunction(call.Name) {
		define := w.program[w.functions[call.Name]]
		w.come(w.labels[define.Entry])
	}
}

// canFail tells whether statements of a kind can fail.
func canFail(kind int) bool {
	return kind != api.StEmpty && kind != api.StRule && kind != api.StDefine
}
