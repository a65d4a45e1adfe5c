package check

import (
	"slices"

	"warden/api"
	"warden/link"
	"warden/table"
)

// untold is the kind of a type of which nothing was told so far: it is under all others.
const untold = -1

// slot is a local ahead of a place, or, with numbers behind those of the locals, a value on the stack.
type slot struct{ at, number int }

// typing has the types of each reached place's slots. They rise, by one joining another, until all that the code asks holds: so they are the least.
type typing struct {
	*walk
	classes *link.Classes
	types   [][]api.Type // by place and number; none of a place that is not reached
	risen   []slot       // of which the type rose, and has not flowed on
}

// typed asks for a walk without faults.
func typed(cs *link.Classes, class string, w *walk) *typing {
	t := &typing{walk: w, classes: cs, types: make([][]api.Type, len(w.heights))}
	for at, height := range w.heights {
		if height != unreached {
			t.types[at] = slices.Repeat([]api.Type{{Kind: untold}}, w.method.Locals+height)
		}
	}
	t.enter(class)
	for at := range t.types {
		if t.isReached(at) {
			t.putFixed(at)
		}
	}
	t.flow()
	return t
}

func (t *typing) isReached(at int) bool { return t.heights[at] != unreached }

func (t *typing) raise(at, number int, to api.Type) {
	old := t.types[at][number]
	if old.Kind != untold {
		to = t.classes.Join(old, to)
	}
	if to != old {
		t.types[at][number] = to
		t.risen = append(t.risen, slot{at, number})
	}
}

func (t *typing) enter(class string) {
	t.raise(0, 0, link.RefTo(class))
	for number := 1; number < t.method.Locals; number++ {
		param := api.Type{}
		if number <= len(t.method.Params) {
			param = t.method.Params[number-1]
		}
		t.raise(0, number, param)
	}
}

// putFixed tells what comes of a place whatever the types are there.
func (t *typing) putFixed(at int) {
	for _, h := range t.method.Handlers {
		if table.Covers(h, at) {
			t.raise(h.At, t.method.Locals, link.RefTo(h.Class))
		}
	}
	for k, put := range t.effects[at].Puts {
		if put.Kind == api.None {
			continue
		}
		for _, next := range table.Next(t.method.Code[at], at) {
			t.raise(next, t.lowest(at)+k, put)
		}
	}
}

// lowest is the number of the deepest value that the instruction takes or puts.
func (t *typing) lowest(at int) int {
	return t.method.Locals + t.heights[at] - len(t.effects[at].Takes)
}

// flow hands each type that rose on to the handlers, and to where the instruction leaves or puts it, until none rises any more.
func (t *typing) flow() {
slots:
	for len(t.risen) > 0 {
		s := t.takeRisen()
		risen, i, lowest := t.types[s.at][s.number], t.method.Code[s.at], t.lowest(s.at)
	handlers:
		for _, h := range t.method.Handlers {
			switch {
			case s.number >= t.method.Locals:
				break handlers // what is on the stack is lost there
			case !table.Covers(h, s.at):
				continue handlers
			}
			t.raise(h.At, s.number, risen)
		}
		for _, next := range table.Next(i, s.at) {
			switch {
			case i.Op == api.Store && s.number == i.A:
				continue slots // the local is another one from there on
			case i.Op == api.Load && s.number == i.A:
				t.raise(next, s.number, risen)
				t.raise(next, lowest, risen)
			case s.number < lowest:
				t.raise(next, s.number, risen)
			case i.Op == api.Store:
				t.raise(next, i.A, risen)
			case i.Op == api.Dup:
				t.raise(next, lowest, risen)
				t.raise(next, lowest+1, risen)
			case i.Op == api.Swap:
				t.raise(next, 2*lowest+1-s.number, risen)
			case i.Op == api.GetRef && s.number == lowest:
				element, _ := table.Element(risen)
				t.raise(next, lowest, element)
			default:
				continue slots // nothing comes of it
			}
		}
	}
}

func (t *typing) takeRisen() slot {
	last := len(t.risen) - 1
	s := t.risen[last]
	t.risen = t.risen[:last]
	return s
}

func (t *typing) kindFault() (int, bool) {
	for at, i := range t.method.Code {
		if !t.isReached(at) {
			continue
		}
		if locals, stack := t.parts(at); !table.Fits(t.classes, t.method, i, stack, locals, itself) {
			return at, true
		}
	}
	return 0, false
}

func itself(t api.Type) api.Type { return t }

func (t *typing) parts(at int) (locals, stack []api.Type) {
	return t.types[at][:t.method.Locals], t.types[at][t.method.Locals:]
}

func (t *typing) frames() []api.Frame {
	list := make([]api.Frame, len(t.types))
	for at := range list {
		list[at].At = at
		if t.isReached(at) {
			locals, stack := t.parts(at)
			list[at].Reached, list[at].Types, list[at].Vars = true, slices.Clone(stack), slices.Clone(locals)
		}
	}
	return list
}
