// Package machine runs methods: with care, where each word carries what it is, and each instruction is held against the words ahead of it, or fast, without either.
package machine

import (
	"slices"
	"strings"

	"warden/api"
	"warden/link"
	"warden/table"
)

// Machine is one run of a method, and of all that it calls.
type Machine struct {
	maker
	classes *link.Classes
	heap    heap
	frames  []*frame
	outcome api.Outcome
}

// Start stands ahead of the first instruction of the method that a class has, which is to take as many Ints as there are args (P9).
// A fast machine asks for classes of which all methods were checked.
func Start(fast bool, classes *link.Classes, class, method string, args []int, room int) *Machine {
	m := &Machine{maker: maker{fast}, classes: classes, heap: heap{room: room}}
	for address := nilAt; address < len(thrownOfItself); address++ {
		m.heap.add(m.blankObject(thrownOfItself[address]))
	}
	given := []api.Word{m.lay(m.blankObject(strings.Clone(class)))} // a copy: what was handed in is not kept
	for _, a := range args {
		given = append(given, m.whole(a))
	}
	m.enter(class, method, given)
	return m
}

// Step makes up to n steps, and tells how many it made (P11).
func (m *Machine) Step(n int) int {
	made := 0
	for made < min(n, api.MaxSteps) && m.outcome.Kind == api.Going && m.step() {
		made++
	}
	m.outcome.Steps += made
	return made
}

// Outcome tells how the run stands (P11).
func (m *Machine) Outcome() api.Outcome {
	o := m.outcome
	o.Out = slices.Clone(o.Out)
	return o
}

// State tells the frames and the heap (P11).
func (m *Machine) State() api.State {
	var s api.State
	for _, f := range m.frames {
		s.Frames = append(s.Frames, api.Frame{
			Class: f.class, Method: f.method.Name, At: f.at, Stack: slices.Clone(f.stack), Locals: slices.Clone(f.locals),
		})
	}
	for _, t := range m.heap.things {
		t.Words = slices.Clone(t.Words)
		s.Heap = append(s.Heap, t)
	}
	return s
}

func (m *Machine) last() *frame { return m.frames[len(m.frames)-1] }

func (m *Machine) dropLast() { m.frames = m.frames[:len(m.frames)-1] }

// step makes the next instruction, or else a careful machine finds that it is stuck.
func (m *Machine) step() bool {
	f := m.last()
	if !m.fast && !m.fits(f) {
		m.outcome.Kind = api.Stuck
		return false
	}
	if thrown := m.do(f, f.method.Code[f.at]); thrown != nowhere {
		m.throw(thrown)
	}
	return true
}

func (m *Machine) fits(f *frame) bool {
	if f.at >= len(f.method.Code) {
		return false
	}
	i := f.method.Code[f.at]
	return table.IsThere(m.classes, f.method, i) && table.Fits(m.classes, f.method, i, f.stack, f.locals, m.heap.typeOf)
}

// end is how a run is done, with the value that its first method told, or a word that is none.
func (m *Machine) end(ret api.Type, value api.Word) {
	m.outcome.Kind = api.Done
	if ret.Kind == api.Int {
		m.outcome.Value = value.V
		return
	}
	if isNull(value) {
		return
	}
	if t := m.heap.typeAt(value.V); t.Kind == api.Ref {
		m.outcome.Class = t.Name
	}
}
