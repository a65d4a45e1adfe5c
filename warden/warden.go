// Package warden: class files are read, linked, checked, and run, with care or fast: see DOC.md.
package warden

import (
	"math"

	"warden/api"
	"warden/check"
	"warden/classfile"
	"warden/link"
	"warden/machine"
)

// Program: classes that were linked.
type Program struct {
	classes link.Classes
	checked bool
}

// Run: a machine at work.
type Run struct{ machine *machine.Machine }

// Encode makes a class's file (P4).
func Encode(c api.Class) (string, api.Errno) { return classfile.Write(c) }

// Decode reads a class's file (P5).
func Decode(file string) (c api.Class, errno api.Errno, at int) {
	defer func() {
		thrown := recover()
		if thrown == nil {
			return
		}
		fault, ok := thrown.(classfile.Fault)
		if !ok {
			panic(thrown) // a mistake of the program's own, which is not to pass for one of the file's
		}
		errno, at = fault.Errno, fault.At
	}()
	return classfile.Read(file), api.OK, 0
}

// Load links files, and checks them (P6, P7).
func Load(files []string, checked bool) (*Program, api.Errno, api.Place) {
	if len(files) > api.MaxFiles {
		return nil, api.ErrArg, api.Place{}
	}
	read, errno, place := decodeAll(files)
	if errno != api.OK {
		return nil, errno, place
	}
	classes, errno, file := link.Link(read)
	if errno != api.OK {
		return nil, errno, api.Place{File: file}
	}
	if checked {
		errno, place = checkAll(&classes, read)
		if errno != api.OK {
			return nil, errno, place
		}
	}
	return &Program{classes, checked}, api.OK, api.Place{}
}

func decodeAll(files []string) ([]api.Class, api.Errno, api.Place) {
	var read []api.Class
	for number, file := range files {
		c, errno, at := Decode(file)
		if errno != api.OK {
			return nil, errno, api.Place{File: number, At: at}
		}
		read = append(read, c)
	}
	return read, api.OK, api.Place{}
}

func checkAll(classes *link.Classes, read []api.Class) (api.Errno, api.Place) {
	for file, c := range read {
		for number, m := range c.Methods {
			if errno, at := check.Method(classes, c.Name, m); errno != api.OK {
				return errno, api.Place{File: file, Method: number, At: at}
			}
		}
	}
	return api.OK, api.Place{}
}

// Typing tells what is on a method's stack and in its locals (P8).
func (p *Program) Typing(class string, method string) ([]api.Frame, api.Errno) {
	m, has := p.classes.OwnMethod(class, method)
	if !has {
		return nil, api.ErrEntry
	}
	if !p.checked {
		return nil, api.ErrArg
	}
	return check.Typing(&p.classes, class, m), api.OK
}

// Start begins a run, with care or fast (P9, P12).
func (p *Program) Start(fast bool, class string, method string, args []int, heap int) (*Run, api.Errno) {
	m, has := p.classes.Method(class, method)
	switch {
	case fast && !p.checked:
		return nil, api.ErrFast
	case !has:
		return nil, api.ErrEntry
	case !areFor(m.Params, args) || heap < 0 || heap > api.MaxHeap:
		return nil, api.ErrArg
	}
	return &Run{machine.Start(fast, &p.classes, class, method, args, heap)}, api.OK
}

// areFor tells whether args are what the params ask for: Ints alone.
func areFor(params []api.Type, args []int) bool {
	if len(params) != len(args) {
		return false
	}
	for k, a := range args {
		if params[k].Kind != api.Int || a < math.MinInt32 || a > math.MaxInt32 {
			return false
		}
	}
	return true
}

// Step makes some steps (P11).
func (r *Run) Step(n int) int { return r.machine.Step(n) }

// State tells the frames and the heap (P11).
func (r *Run) State() api.State { return r.machine.State() }

// Outcome tells how it stands (P11).
func (r *Run) Outcome() api.Outcome { return r.machine.Outcome() }
