// Package warden: class files are read, linked, checked, and run, with care or fast: see DOC.md.
package warden

import (
	"warden/api"
	"warden/classfile"
)

// Program: classes that were linked.
type Program struct{}

// Run: a machine at work.
type Run struct{}

// Encode makes a class's file (P4).
func Encode(c api.Class) (string, api.Errno) { return classfile.Write(c) }

// Decode reads a class's file (P5).
func Decode(file string) (c api.Class, errno api.Errno, at int) {
	defer func() {
		thrown := recover()
		if thrown == nil {
			return
		}
		fault, ok := thrown.(classfile.Fault)
		if !ok {
			panic(thrown) // a mistake of the program's own, which is not to pass for one of the file's
		}
		errno, at = fault.Errno, fault.At
	}()
	return classfile.Read(file), api.OK, 0
}

// Load links files, and checks them (P6, P7).
func Load(files []string, checked bool) (*Program, api.Errno, api.Place) {
	return nil, api.OK, api.Place{}
}

// Typing tells what is on a method's stack and in its locals (P8).
func (p *Program) Typing(class string, method string) ([]api.Frame, api.Errno) { return nil, api.OK }

// Start begins a run (P9).
func (p *Program) Start(fast bool, class string, method string, args []int, heap int) (*Run, api.Errno) {
	return nil, api.OK
}

// Step makes some steps (P11).
func (r *Run) Step(n int) int { return 0 }

// State tells the frames and the heap (P11).
func (r *Run) State() api.State { return api.State{} }

// Outcome tells how it stands (P11).
func (r *Run) Outcome() api.Outcome { return api.Outcome{} }
