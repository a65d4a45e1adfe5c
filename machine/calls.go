package machine

import (
	"warden/api"
	"warden/table"
)

// enter takes a frame of the method that a class has; given are the object and the params.
func (m *Machine) enter(class, method string, given []api.Word) {
	owner := m.classes.Owner(class, method)
	own, _ := m.classes.OwnMethod(owner, method)
	locals := make([]api.Word, max(own.Locals, len(given)))
	copy(locals, given)
	m.frames = append(m.frames, &frame{class: owner, method: own, locals: locals})
}

// call leaves the frame that calls at its place: what the other one throws, it throws there.
func (m *Machine) call(f *frame, i api.Ins) int {
	named, _ := m.classes.Method(i.Class, i.Member)
	given := f.popList(1 + len(named.Params))
	if isNull(given[0]) {
		return nilAt
	}
	if len(m.frames) >= api.MaxFrames {
		return depthAt
	}
	m.enter(m.heap.at(given[0].V).Class, i.Member, given)
	return nowhere
}

// giveBack ends a frame, with its value, if there is one.
func (m *Machine) giveBack(f *frame) {
	hasValue, value := f.method.Ret.Kind != api.None, api.Word{}
	if hasValue {
		value = f.pop()
	}
	m.dropLast()
	if len(m.frames) == 0 {
		m.end(f.method.Ret, value)
		return
	}
	caller := m.last()
	if hasValue {
		caller.push(value)
	}
	caller.at++
}

func thrownBy(thing api.Word) int {
	if isNull(thing) {
		return nilAt
	}
	return thing.V
}

// throw ends frames until one goes on by a handler, or all are gone.
func (m *Machine) throw(thrown int) {
	class := m.heap.at(thrown).Class
	for len(m.frames) > 0 {
		f := m.last()
		for _, h := range f.method.Handlers {
			if table.Covers(h, f.at) && m.classes.Below(class, h.Class) {
				f.at, f.stack = h.At, []api.Word{m.address(thrown)}
				return
			}
		}
		m.dropLast()
	}
	m.outcome.Kind, m.outcome.Class = api.Over, class
}
