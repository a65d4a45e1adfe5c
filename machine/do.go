package machine

import (
	"slices"

	"warden/api"
	"warden/link"
)

// do makes an instruction that fits, and gives the address of what it throws, or nowhere.
func (m *Machine) do(f *frame, i api.Ins) int {
	switch i.Op {
	case api.Jump, api.IfZero, api.IfLess, api.IfSame:
		f.jump(i)
		return nowhere
	case api.Call:
		return m.call(f, i)
	case api.Return:
		m.giveBack(f)
		return nowhere
	case api.Throw:
		return thrownBy(f.pop())
	}
	thrown := m.work(f, i)
	if thrown == nowhere {
		f.at++
	}
	return thrown
}

// work makes an instruction that goes on behind its place.
func (m *Machine) work(f *frame, i api.Ins) int {
	switch i.Op {
	case api.Push:
		f.push(m.whole(i.A))
	case api.Nought:
		f.push(m.null())
	case api.Load:
		f.push(f.locals[i.A])
	case api.Store:
		f.locals[i.A] = f.pop()
	case api.Pop:
		f.pop()
	case api.Dup:
		f.push(f.top())
	case api.Swap:
		second, first := f.pop(), f.pop()
		f.push(second)
		f.push(first)
	case api.Print:
		m.outcome.Out = append(m.outcome.Out, f.pop().V)
	case api.New:
		return m.newObject(f, i.Class)
	case api.NewInts:
		return m.newArray(f, api.Thing{Kind: api.Ints}, m.whole(0))
	case api.NewRefs:
		return m.newArray(f, api.Thing{Kind: api.Refs, Class: i.Class}, m.null())
	case api.Get:
		return m.get(f, i)
	case api.Put:
		return m.put(f, i)
	case api.Length:
		return m.length(f)
	case api.GetInt, api.GetRef:
		return m.getElement(f)
	case api.PutInt, api.PutRef:
		return m.putElement(f)
	case api.To:
		return m.to(f, i.Class)
	case api.Is:
		m.is(f, i.Class)
	default:
		return m.reckon(f, i.Op)
	}
	return nowhere
}

// reckon gives what Add, Sub, Mul, Div or Rem throws, if it does.
func (m *Machine) reckon(f *frame, op int) int {
	second, first := int32(f.pop().V), int32(f.pop().V)
	if second == 0 && (op == api.Div || op == api.Rem) {
		return zeroAt
	}
	var result int32
	switch op {
	case api.Add:
		result = first + second
	case api.Sub:
		result = first - second
	case api.Mul:
		result = first * second
	case api.Div:
		result = first / second
	case api.Rem:
		result = first % second
	}
	f.push(m.whole(int(result)))
	return nowhere
}

// lay lays a thing at the next address, and gives the word for it.
func (m *Machine) lay(t api.Thing) api.Word { return m.address(m.heap.add(t)) }

func (m *Machine) blankObject(class string) api.Thing {
	object := api.Thing{Kind: api.Ref, Class: class}
	for _, field := range m.classes.Fields(class) {
		object.Words = append(object.Words, m.blank(field.Type))
	}
	return object
}

func (m *Machine) newObject(f *frame, class string) int {
	if !m.heap.take(m.classes.Width(class)) {
		return memoryAt
	}
	f.push(m.lay(m.blankObject(class)))
	return nowhere
}

// newArray fills an array that is empty so far.
func (m *Machine) newArray(f *frame, array api.Thing, element api.Word) int {
	length := f.pop().V
	if length < 0 {
		return sizeAt
	}
	if !m.heap.take(length) {
		return memoryAt
	}
	array.Words = slices.Repeat([]api.Word{element}, length)
	f.push(m.lay(array))
	return nowhere
}

// field is where an object has what an instruction names.
func (m *Machine) field(object api.Word, i api.Ins) *api.Word {
	return &m.heap.at(object.V).Words[m.classes.Slot(i.Class, i.Member)]
}

func (m *Machine) get(f *frame, i api.Ins) int {
	object := f.pop()
	if isNull(object) {
		return nilAt
	}
	f.push(*m.field(object, i))
	return nowhere
}

func (m *Machine) put(f *frame, i api.Ins) int {
	value, object := f.pop(), f.pop()
	if isNull(object) {
		return nilAt
	}
	*m.field(object, i) = value
	return nowhere
}

func (m *Machine) length(f *frame) int {
	array := f.pop()
	if isNull(array) {
		return nilAt
	}
	f.push(m.whole(len(m.heap.at(array.V).Words)))
	return nowhere
}

// element is where an array has an element; if it has none, the address of what is thrown comes with it.
func (m *Machine) element(array, index api.Word) (*api.Word, int) {
	if isNull(array) {
		return nil, nilAt
	}
	words := m.heap.at(array.V).Words
	if index.V < 0 || index.V >= len(words) {
		return nil, indexAt
	}
	return &words[index.V], nowhere
}

func (m *Machine) getElement(f *frame) int {
	index, array := f.pop(), f.pop()
	element, thrown := m.element(array, index)
	if thrown == nowhere {
		f.push(*element)
	}
	return thrown
}

func (m *Machine) putElement(f *frame) int {
	value, index, array := f.pop(), f.pop(), f.pop()
	element, thrown := m.element(array, index)
	if thrown == nowhere {
		*element = value
	}
	return thrown
}

// isThingUnder is not asked of null, which To lets be, and Is answers with 0.
func (m *Machine) isThingUnder(address int, class string) bool {
	return m.classes.Under(m.heap.typeAt(address), link.RefTo(class))
}

func (m *Machine) to(f *frame, class string) int {
	if w := f.top(); !isNull(w) && !m.isThingUnder(w.V, class) {
		return castAt
	}
	return nowhere
}

func (m *Machine) is(f *frame, class string) {
	answer := 0
	if w := f.pop(); !isNull(w) && m.isThingUnder(w.V, class) {
		answer = 1
	}
	f.push(m.whole(answer))
}
