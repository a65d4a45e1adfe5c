package promises

import (
	"math"
	"math/rand"

	"warden/api"
)

// author: writes methods that have no error, by a grammar: values of a type, and work that leaves the stack as it was. Each local holds values of one type alone.
type author struct {
	*rand.Rand
	w       world
	classes []string // of which there may be objects
	m       api.Method
	locals  []api.Type
	height  int
	counter int // the local that counts the rounds of loops
}

// village: the family, and classes with methods that an author wrote: Me, and Sub below it, which has another p.
func village(seed int64) ([]api.Class, *author) {
	a := &author{Rand: rand.New(rand.NewSource(seed)), classes: builtIns()}
	entry, p, q, s := a.head("m"), a.head("p"), a.head("q"), a.head("s")
	entry.Params = filled(a.Intn(3), number)
	me := withFields(classOf("Me", "Pet", p, entry, q), field("k", number))
	sub := withFields(classOf("Sub", "Me", s, p), field("z", ints), field("o", refTo("Object")))
	a.w = worldOf(append(family(), me, sub))
	for _, c := range append(family(), me, sub) {
		a.classes = append(a.classes, c.Name)
	}
	for _, c := range []api.Class{me, sub} {
		for k, m := range c.Methods {
			c.Methods[k] = a.write(c.Name, m)
		}
	}
	classes := append(family(), sub, me)
	a.w = worldOf(classes)
	return classes, a
}

func (a *author) anyType() api.Type {
	return []api.Type{number, number, number, refTo("Me"), refTo("Pet"), refTo("Object"), refTo("Own"), ints, refsOf("Pet"), refsOf("Object")}[a.Intn(10)]
}

func (a *author) head(name string) api.Method {
	m := api.Method{Name: name}
	for range a.Intn(3) {
		m.Params = append(m.Params, a.anyType())
	}
	if a.Intn(4) > 0 {
		m.Ret = a.anyType()
	}
	return m
}

// write: first each local gets a value, but for the last one, which stays no word.
func (a *author) write(class string, head api.Method) api.Method {
	a.m, a.height = head, 0
	a.locals = append(typeList(refTo(class)), head.Params...)
	for _, t := range []api.Type{number, refTo("Object"), refTo("Throw"), ints, refsOf("Pet")} {
		a.value(t, 0)
		a.add(do(api.Store, len(a.locals)))
		a.locals = append(a.locals, t)
	}
	a.counter = len(a.locals)
	a.m.Locals = len(a.locals) + 2
	for len(a.m.Code) < 25+a.Intn(40) {
		if a.Intn(3) == 0 {
			a.work(2)
		} else {
			a.try(2)
		}
	}
	if a.Intn(4) == 0 {
		a.value(number, 1) // which is lost
	}
	a.giveBack()
	return a.m
}

func (a *author) add(i api.Ins) {
	takes, puts := a.w.size(a.m, i)
	a.height += puts - takes
	a.m.Stack = max(a.m.Stack, a.height)
	a.m.Code = append(a.m.Code, i)
}

// jump adds a jump, of which land tells where it goes to.
func (a *author) jump(op int) (at int) {
	a.add(do(op))
	return len(a.m.Code) - 1
}

func (a *author) land(at int) { a.m.Code[at].A = len(a.m.Code) }

func (a *author) giveBack() {
	if a.m.Ret != nothing {
		a.value(a.m.Ret, 1)
	}
	a.add(do(api.Return))
	a.height = 0
}

// number: a small one, as a rule.
func (a *author) number() {
	n := a.Intn(8) - 1
	if a.Intn(12) == 0 {
		n = []int{math.MinInt32, math.MaxInt32, 1 << 16, 46341, -9, 40}[a.Intn(6)]
	}
	a.add(do(api.Push, n))
}

// length mostly goes with index.
func (a *author) length() {
	if a.Intn(8) == 0 {
		a.number()
	} else {
		a.add(do(api.Push, 3))
	}
}

func (a *author) index() {
	if a.Intn(8) == 0 {
		a.number()
	} else {
		a.add(do(api.Push, a.Intn(3)))
	}
}

// value puts one of a type under t, made of others as deep as that.
func (a *author) value(t api.Type, deep int) {
	if deep > 0 && a.Intn(5) > 0 && a.made(t, deep-1) {
		return
	}
	if k := a.Intn(1 + len(a.locals)); k < len(a.locals) && a.w.under(a.locals[k], t) {
		a.add(do(api.Load, k))
		return
	}
	switch {
	case t == number:
		a.number()
	case a.Intn(20) == 0:
		a.add(do(api.Nought))
	case t.Kind == api.Ref:
		a.add(by(api.New, a.below(t.Name)))
	case t == ints:
		a.length()
		a.add(do(api.NewInts))
	default:
		a.length()
		a.add(by(api.NewRefs, t.Name))
	}
}

func (a *author) below(class string) string {
	for {
		if c := a.classes[a.Intn(len(a.classes))]; a.w.below(c, class) {
			return c
		}
	}
}

// made puts a value that others make; it tells whether it has found how.
func (a *author) made(t api.Type, deep int) bool {
	switch a.Intn(4) {
	case 0:
		return a.called(t, deep)
	case 1:
		return a.read(t, deep)
	case 2:
		return a.element(t, deep)
	}
	if t == number {
		a.reckoned(deep)
	} else if t.Kind == api.Ref {
		a.value(refTo([]string{"Object", t.Name, t.Name}[a.Intn(3)]), deep)
		a.add(by(api.To, t.Name))
	}
	return t == number || t.Kind == api.Ref
}

// called puts what some method gives back, or nothing if t is so.
func (a *author) called(t api.Type, deep int) bool {
	class := a.below("Pet")
	for c := class; c != ""; c = a.w[c].Super {
		for _, k := range a.Perm(len(a.w[c].Methods)) {
			m := a.w[c].Methods[k]
			if (t == nothing) != (m.Ret == nothing) || !a.w.under(m.Ret, t) {
				continue
			}
			a.value(refTo(class), deep)
			for _, p := range m.Params {
				a.value(p, deep-1)
			}
			a.add(by(api.Call, class, m.Name))
			return true
		}
	}
	return false
}

func (a *author) read(t api.Type, deep int) bool {
	class := a.below("Pet")
	for _, f := range a.w.fields(class) {
		if a.w.under(f.Type, t) && a.Intn(2) == 0 {
			a.value(refTo(class), deep)
			a.add(by(api.Get, class, f.Name))
			return true
		}
	}
	return false
}

func (a *author) element(t api.Type, deep int) bool {
	switch {
	case t == number:
		a.value(ints, deep)
		a.index()
		a.add(do(api.GetInt))
	case t.Kind == api.Ref:
		a.value(refsOf(a.below(t.Name)), deep)
		a.index()
		a.add(do(api.GetRef))
	}
	return t == number || t.Kind == api.Ref
}

func (a *author) reckoned(deep int) {
	switch a.Intn(5) {
	case 0:
		a.value([]api.Type{ints, refsOf("Pet"), refsOf("Own")}[a.Intn(3)], deep)
		a.add(do(api.Length))
	case 1:
		a.value(refTo("Object"), deep)
		a.add(by(api.Is, a.below("Object")))
	default:
		a.value(number, deep)
		a.value(number, deep)
		a.add(do(api.Add + a.Intn(5)))
	}
}

// work leaves the stack empty, as it was.
func (a *author) work(deep int) {
	switch n := a.Intn(12); {
	case n < 2:
		k := 1 + a.Intn(len(a.locals)-1)
		a.value(a.locals[k], 2)
		a.add(do(api.Store, k))
	case n < 5:
		a.put()
	case n == 5:
		a.value(number, 2)
		a.add(do(api.Print))
	case n == 6:
		a.called(nothing, 2)
	case n == 7:
		a.turn()
	case deep == 0:
		return
	case n == 8:
		a.either(deep - 1)
	case n == 9:
		a.loop(deep - 1)
	default:
		a.try(deep - 1)
	}
}

// put gives a field or an element a value.
func (a *author) put() {
	class := a.below("Pet")
	fields := a.w.fields(class)
	switch a.Intn(4) {
	case 0:
		a.value(ints, 1)
		a.index()
		a.value(number, 1)
		a.add(do(api.PutInt))
	case 1:
		a.value(refsOf(class), 1)
		a.index()
		a.value(refTo(class), 1)
		a.add(do(api.PutRef))
	default:
		f := fields[a.Intn(len(fields))]
		a.value(refTo(class), 1)
		a.value(f.Type, 1)
		a.add(by(api.Put, class, f.Name))
	}
}

// turn moves two values of any types on the stack.
func (a *author) turn() {
	a.value(a.anyType(), 1)
	a.value(a.anyType(), 1)
	a.add(do(api.Swap))
	a.add(do(api.Dup))
	a.add(do(api.Pop))
	a.add(do(api.Pop))
	a.add(do(api.Pop))
}

// either does one work or another, or ends the method there.
func (a *author) either(deep int) {
	op := api.IfZero + a.Intn(3)
	t := number
	if op == api.IfSame {
		t = refTo("Object")
	}
	a.value(t, 1)
	if op != api.IfZero {
		a.value(t, 1)
	}
	other := a.jump(op)
	switch a.Intn(4) {
	case 0:
		a.value(refTo("Throw"), 1)
		a.add(do(api.Throw))
		a.height = 0
		a.land(other)
	case 1:
		a.giveBack()
		a.land(other)
	default:
		a.work(deep)
		end := a.jump(api.Jump)
		a.land(other)
		a.work(deep)
		a.land(end)
	}
}

func (a *author) loop(deep int) {
	a.add(do(api.Push, a.Intn(4)))
	a.add(do(api.Store, a.counter))
	again := len(a.m.Code)
	a.add(do(api.Load, a.counter))
	end := a.jump(api.IfZero)
	a.work(deep)
	a.work(deep)
	a.add(do(api.Load, a.counter))
	a.add(do(api.Push, -1))
	a.add(do(api.Add))
	a.add(do(api.Store, a.counter))
	a.add(do(api.Jump, again))
	a.land(end)
}

// try does work of which some part is in a handler's range.
func (a *author) try(deep int) {
	from := len(a.m.Code)
	for range 1 + a.Intn(3) {
		a.work(deep)
	}
	end := a.jump(api.Jump)
	to := len(a.m.Code)
	h := handlerTo(from, to, to, a.below("Throw"))
	if a.Intn(2) == 0 {
		h.From += a.Intn(to - from)
		h.To = h.From + 1 + a.Intn(to-h.From)
	}
	if a.Intn(2) == 0 {
		h.Class = "Throw"
	}
	a.m.Handlers = append(a.m.Handlers, h)
	a.m.Stack = max(a.m.Stack, 1)
	a.height = 1
	switch a.Intn(4) {
	case 0:
		a.add(do(api.Store, len(a.m.Params)+3)) // that of Throw
	case 1:
		a.add(by(api.Is, a.below("Throw")))
		a.add(do(api.Print))
	case 2:
		a.add(by(api.To, a.below("Throw")))
		a.add(do(api.Throw))
		a.height = 0
	default:
		a.add(do(api.Pop))
	}
	a.land(end)
}
