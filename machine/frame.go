package machine

import (
	"slices"

	"warden/api"
)

// frame is a method at work. What it does here asks for an instruction that fits.
type frame struct {
	class         string // that has the method
	method        api.Method
	at            int
	stack, locals []api.Word
}

func (f *frame) push(w api.Word) { f.stack = append(f.stack, w) }

func (f *frame) pop() api.Word {
	w := f.top()
	f.stack = f.stack[:len(f.stack)-1]
	return w
}

func (f *frame) top() api.Word { return f.stack[len(f.stack)-1] }

// popList gives the last n words, the deepest first.
func (f *frame) popList(n int) []api.Word {
	left := len(f.stack) - n
	list := slices.Clone(f.stack[left:])
	f.stack = f.stack[:left]
	return list
}

// jump goes on at the instruction's A, or behind its place.
func (f *frame) jump(i api.Ins) {
	if f.isJumpMade(i.Op) {
		f.at = i.A
	} else {
		f.at++
	}
}

func (f *frame) isJumpMade(op int) bool {
	switch op {
	case api.IfZero:
		return f.pop().V == 0
	case api.IfLess:
		second, first := f.pop(), f.pop()
		return first.V < second.V
	case api.IfSame:
		return f.pop().V == f.pop().V
	}
	return true
}
