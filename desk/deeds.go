package desk

import (
	"strconv"
	"strings"

	"scanfail/api"
	"scanfail/fold"
	"scanfail/machine"
	"scanfail/pats"
	"scanfail/syntax"
)

// begin puts a program there that has nothing.
func (d *Desk) begin(name, _ string) (string, api.Errno) {
	switch {
	case !pats.Named(name):
		return "", api.ErrForm
	case d.programs[name] != nil:
		return "", api.ErrName
	case len(d.programs) == api.MaxNamed:
		return "", api.ErrMany
	}
	return d.change(name, &program{})
}

// addLine puts a statement behind those that a program has.
func (d *Desk) addLine(name, text string) (string, api.Errno) {
	p := d.programs[name]
	s, some, fault := syntax.Line(text)
	switch {
	case fault.Err != api.OK:
		return "", fault.Err
	case !some:
		return "", api.ErrForm
	case len(p.statements) == api.MaxLines:
		return "", api.ErrMany
	}
	return d.change(name, &program{statements: append(p.statements, s), input: p.input})
}

// addInput puts a line behind those that come in to a program.
func (d *Desk) addInput(name, text string) (string, api.Errno) {
	p := d.programs[name]
	if len(p.input) == api.MaxInput {
		return "", api.ErrMany
	}
	return d.change(name, &program{statements: p.statements, input: append(p.input, strings.Clone(text))})
}

// quicken puts a program there that does the same, and is quicker.
func (d *Desk) quicken(name, _ string) (string, api.Errno) {
	p := d.programs[name]
	quick, fault := fold.Program(p.statements)
	if fault.Err != api.OK {
		return "", fault.Err
	}
	return d.change(name, &program{statements: quick, input: p.input})
}

func (d *Desk) drop(name, _ string) (string, api.Errno) { return d.change(name, nil) }

// list tells a program in words.
func (d *Desk) list(name, _ string) (string, api.Errno) {
	text, fault := syntax.Show(d.programs[name].statements)
	return text, fault.Err
}

// run tells what a program told, and how its run ended.
func (d *Desk) run(name, _ string) (string, api.Errno) {
	p := d.programs[name]
	ran, _, fault := machine.Run(p.statements, p.input, api.DeskLimit)
	if fault.Err != api.OK {
		return "", fault.Err
	}
	var told strings.Builder
	for _, line := range ran.Output {
		told.WriteString(line)
		told.WriteByte('\n')
	}
	told.WriteString("ended " + strconv.Itoa(ran.How) + " " + strconv.Itoa(ran.Steps))
	return told.String(), api.OK
}
