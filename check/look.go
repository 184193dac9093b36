package check

import (
	"slices"

	"scanfail/api"
	"scanfail/syntax"
)

// firstFault keeps the first fault that it is told, and no other one.
type firstFault struct{ api.Fault }

func (f *firstFault) tell(err api.Errno, at int) {
	if f.Err == api.OK && err != api.OK {
		f.Fault = api.Fault{Err: err, At: at}
	}
}

// names is what is known of a program's names: at which statement a label stands, and which one defines a function.
type names struct {
	labels, functions map[string]int
}

func (n *names) isLabel(label string) bool {
	_, there := n.labels[label]
	return there
}

func (n *names) isFunction(name string) bool {
	_, there := n.functions[name]
	return there
}

// checker looks at a program, round by round; its names are all known behind the second one.
type checker struct {
	firstFault
	names
	program []api.Statement
}

// look is all that comes of looking at a program.
func look(l []api.Statement) *checker {
	c := &checker{names: names{labels: map[string]int{}, functions: map[string]int{}}, program: l}
	if len(l) > api.MaxLines {
		c.tell(api.ErrMany, 0)
	}
	c.round(c.alone)
	c.round(c.learn)
	c.round(c.follow)
	return c
}

// round does something with each statement, up to the first fault: what stands behind one may have no end, an expression that holds itself.
func (c *checker) round(do func(at int, s api.Statement)) {
	for at, s := range c.program {
		if c.Err != api.OK {
			return
		}
		do(at, s)
	}
}

// alone tells what is wrong with a statement by itself.
func (c *checker) alone(at int, s api.Statement) {
	c.tell(syntax.Wrong(s), at)
}

// learn takes down a statement's names, and tells if they can't be had.
func (c *checker) learn(at int, s api.Statement) {
	if s.Label != "" {
		if leadsOut(s.Label) || c.isLabel(s.Label) {
			c.tell(api.ErrName, at)
		}
		c.labels[s.Label] = at
	}
	if s.Kind == api.StDefine {
		if Builtin(s.Name) != noFunction || c.isFunction(s.Name) || clash(s) {
			c.tell(api.ErrName, at)
		}
		c.functions[s.Name] = at
	}
}

// clash tells whether a function's variables are not all its own, each one another.
func clash(define api.Statement) bool {
	taken := map[string]int{"INPUT": 1, "OUTPUT": 1}
	for _, name := range slices.Concat([]string{define.Name}, define.Params, define.Locals) {
		if taken[name] > 0 {
			return true
		}
		taken[name]++
	}
	return false
}

// follow tells where a statement's names lead to nothing, or not to what they are used for.
func (c *checker) follow(at int, s api.Statement) {
	for _, label := range []string{s.Always, s.Yes, s.Noes} {
		if label != "" && !leadsOut(label) && !c.isLabel(label) {
			c.tell(api.ErrNone, at)
		}
	}
	if s.Kind == api.StDefine && !c.isLabel(s.Entry) {
		c.tell(api.ErrNone, at)
	}
	eachCall(expressions(s), func(call api.Expr) {
		c.tell(c.wrongCall(call), at)
	})
}

// wrongCall is what is wrong with a call, whatever its kids are made of.
func (c *checker) wrongCall(call api.Expr) api.Errno {
	if takes := Builtin(call.Name); takes != noFunction {
		if len(call.Kids) != takes {
			return api.ErrMany
		}
		return api.OK
	}
	if !c.isFunction(call.Name) {
		return api.ErrName
	}
	define := c.program[c.functions[call.Name]]
	if len(call.Kids) > len(define.Params) {
		return api.ErrMany
	}
	return api.OK
}
