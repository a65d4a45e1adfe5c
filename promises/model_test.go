package promises

import (
	"slices"

	"warden/api"
)

// world: all classes, by name. What follows tells of types and of the typing what the document tells, as plainly as can be, and as slowly.
type world map[string]api.Class

func worldOf(classes []api.Class) world {
	w := world{}
	for i, name := range builtIns() {
		super := []string{"", "Object", "Throw"}[min(i, 2)]
		w[name] = classOf(name, super)
	}
	for _, c := range classes {
		w[c.Name] = c
	}
	return w
}

func (w world) below(c, d string) bool {
	for c != d && c != "" {
		c = w[c].Super
	}
	return c == d
}

func (w world) types() []api.Type {
	all := []api.Type{nothing, number, null, ints}
	for c := range w {
		all = append(all, refTo(c), refsOf(c))
	}
	return all
}

func (w world) under(t, u api.Type) bool {
	isArray := t.Kind == api.Ints || t.Kind == api.Refs
	return t == u || u == nothing ||
		t == null && (u.Kind == api.Ref || u.Kind == api.Ints || u.Kind == api.Refs) ||
		t.Kind == api.Ref && u.Kind == api.Ref && w.below(t.Name, u.Name) ||
		isArray && u == refTo("Object")
}

// join: that of all types above both which is under all others that are so.
func (w world) join(t, u api.Type) api.Type {
	var above []api.Type
	for _, x := range w.types() {
		if w.under(t, x) && w.under(u, x) {
			above = append(above, x)
		}
	}
	for _, x := range above {
		if !slices.ContainsFunc(above, func(y api.Type) bool { return !w.under(x, y) }) {
			return x
		}
	}
	panic("no join")
}

func (w world) field(class, name string) (api.Type, bool) {
	for ; class != ""; class = w[class].Super {
		for _, f := range w[class].Fields {
			if f.Name == name {
				return f.Type, true
			}
		}
	}
	return nothing, false
}

func (w world) method(class, name string) (api.Method, bool) {
	for ; class != ""; class = w[class].Super {
		for _, m := range w[class].Methods {
			if m.Name == name {
				return m, true
			}
		}
	}
	return api.Method{}, false
}

// sizes: how many values each Op takes and puts (of Call and Return: without what hangs on the method).
var sizes = [32][2]int{
	api.Push: {0, 1}, api.Nought: {0, 1}, api.Load: {0, 1}, api.Store: {1, 0}, api.Pop: {1, 0}, api.Dup: {1, 2}, api.Swap: {2, 2},
	api.Add: {2, 1}, api.Sub: {2, 1}, api.Mul: {2, 1}, api.Div: {2, 1}, api.Rem: {2, 1},
	api.Jump: {0, 0}, api.IfZero: {1, 0}, api.IfLess: {2, 0}, api.IfSame: {2, 0},
	api.New: {0, 1}, api.Get: {1, 1}, api.Put: {2, 0}, api.Call: {1, 0}, api.Return: {0, 0},
	api.NewInts: {1, 1}, api.NewRefs: {1, 1}, api.Length: {1, 1}, api.GetInt: {2, 1}, api.PutInt: {3, 0}, api.GetRef: {2, 1}, api.PutRef: {3, 0},
	api.To: {1, 1}, api.Is: {1, 1}, api.Throw: {1, 0}, api.Print: {1, 0},
}

func (w world) size(m api.Method, i api.Ins) (takes, puts int) {
	takes, puts = sizes[i.Op][0], sizes[i.Op][1]
	ret := nothing
	if i.Op == api.Call {
		callee, _ := w.method(i.Class, i.Member)
		takes += len(callee.Params)
		ret = callee.Ret
	}
	if ret != nothing {
		puts++
	}
	if i.Op == api.Return && m.Ret != nothing {
		takes++
	}
	return takes, puts
}

// fits: with as many values taken as the Op takes.
func (w world) fits(m api.Method, i api.Ins, taken, locals []api.Type) bool {
	isInt := func(k int) bool { return taken[k] == number }
	isObject := func(k int) bool { return w.under(taken[k], refTo("Object")) }
	is := func(k int, kinds ...int) bool { return slices.Contains(kinds, taken[k].Kind) }
	switch i.Op {
	case api.Load:
		return locals[i.A] != nothing
	case api.Store:
		return taken[0] != nothing
	case api.Add, api.Sub, api.Mul, api.Div, api.Rem, api.IfLess:
		return isInt(0) && isInt(1)
	case api.IfZero, api.NewInts, api.NewRefs, api.Print:
		return isInt(0)
	case api.IfSame:
		return isObject(0) && isObject(1)
	case api.Get:
		return w.under(taken[0], refTo(i.Class))
	case api.Put:
		f, _ := w.field(i.Class, i.Member)
		return w.under(taken[0], refTo(i.Class)) && w.under(taken[1], f)
	case api.Call:
		callee, _ := w.method(i.Class, i.Member)
		for k, p := range callee.Params {
			if !w.under(taken[1+k], p) {
				return false
			}
		}
		return w.under(taken[0], refTo(i.Class))
	case api.Return:
		return m.Ret == nothing || w.under(taken[0], m.Ret)
	case api.Length:
		return is(0, api.Ints, api.Refs, api.Null)
	case api.GetInt:
		return is(0, api.Ints, api.Null) && isInt(1)
	case api.PutInt:
		return is(0, api.Ints, api.Null) && isInt(1) && isInt(2)
	case api.GetRef:
		return is(0, api.Refs, api.Null) && isInt(1)
	case api.PutRef:
		return isInt(1) && (is(0, api.Refs) && w.under(taken[2], refTo(taken[0].Name)) || is(0, api.Null) && isObject(2))
	case api.To, api.Is:
		return isObject(0)
	case api.Throw:
		return w.under(taken[0], refTo("Throw"))
	}
	return true // Push, Nought, Pop, Dup, Swap, Jump, New
}

// puts: the types that an instruction puts, whether it fits or not.
func (w world) puts(i api.Ins, taken, locals []api.Type) []api.Type {
	switch i.Op {
	case api.Push, api.Add, api.Sub, api.Mul, api.Div, api.Rem, api.Length, api.GetInt, api.Is:
		return typeList(number)
	case api.Nought:
		return typeList(null)
	case api.Load:
		return typeList(locals[i.A])
	case api.Dup:
		return typeList(taken[0], taken[0])
	case api.Swap:
		return typeList(taken[1], taken[0])
	case api.New, api.To:
		return typeList(refTo(i.Class))
	case api.Get:
		f, _ := w.field(i.Class, i.Member)
		return typeList(f)
	case api.Call:
		if callee, _ := w.method(i.Class, i.Member); callee.Ret != nothing {
			return typeList(callee.Ret)
		}
	case api.NewInts:
		return typeList(ints)
	case api.NewRefs:
		return typeList(refsOf(i.Class))
	case api.GetRef:
		switch taken[0].Kind {
		case api.Refs:
			return typeList(refTo(taken[0].Name))
		case api.Null:
			return typeList(null)
		}
		return typeList(nothing)
	}
	return nil
}

func (w world) nexts(i api.Ins, at int) []int {
	switch i.Op {
	case api.Return, api.Throw:
		return nil
	case api.Jump:
		return []int{i.A}
	case api.IfZero, api.IfLess, api.IfSame:
		return []int{i.A, at + 1}
	}
	return []int{at + 1}
}

func (w world) isThere(m api.Method, i api.Ins) bool {
	_, class := w[i.Class]
	_, field := w.field(i.Class, i.Member)
	_, method := w.method(i.Class, i.Member)
	switch i.Op {
	case api.Load, api.Store:
		return i.A < m.Locals
	case api.Jump, api.IfZero, api.IfLess, api.IfSame:
		return i.A < len(m.Code)
	case api.New, api.NewRefs, api.To, api.Is:
		return class
	case api.Get, api.Put:
		return field
	case api.Call:
		return method
	}
	return true
}

func (w world) codeFault(m api.Method) (int, bool) {
	if len(m.Code) == 0 || m.Locals <= len(m.Params) {
		return 0, true
	}
	last := m.Code[len(m.Code)-1].Op
	for at, i := range m.Code {
		if !w.isThere(m, i) || at == len(m.Code)-1 && last != api.Jump && last != api.Return && last != api.Throw {
			return at, true
		}
	}
	for _, h := range m.Handlers {
		if h.From >= h.To || h.To > len(m.Code) || h.At >= len(m.Code) || !w.below(h.Class, "Throw") {
			return h.From, true
		}
	}
	return 0, false
}

// reached: each place with each of its heights, found by going over all of them until there are no more.
func (w world) reached(m api.Method) map[[2]int]int {
	r := map[[2]int]int{{0, 0}: 1}
	for before := 0; before < len(r); {
		before = len(r)
		for at, i := range m.Code {
			for height := 0; height <= m.Stack; height++ {
				if r[[2]int{at, height}] == 0 {
					continue
				}
				for _, h := range m.Handlers {
					if h.From <= at && at < h.To && m.Stack > 0 {
						r[[2]int{h.At, 1}] = 1
					}
				}
				if takes, puts := w.size(m, i); height >= takes && height-takes+puts <= m.Stack {
					for _, n := range w.nexts(i, at) {
						r[[2]int{n, height - takes + puts}] = 1
					}
				}
			}
		}
	}
	return r
}

func (w world) stackFault(m api.Method, reached map[[2]int]int) (int, bool) {
	for at, i := range m.Code {
		heights := 0
		for height := 0; height <= m.Stack; height++ {
			if reached[[2]int{at, height}] == 0 {
				continue
			}
			heights++
			takes, puts := w.size(m, i)
			none := m.Stack == 0 && slices.ContainsFunc(m.Handlers, func(h api.Handler) bool { return h.From <= at && at < h.To })
			if heights > 1 || height < takes || height-takes+puts > m.Stack || none {
				return at, true
			}
		}
	}
	return 0, false
}

// typing: what holds at each place grows, from nothing told at all, as long as what the document asks of it does not hold yet.
func (w world) typing(class string, m api.Method) []api.Frame {
	frames := make([]api.Frame, len(m.Code))
	grown := true
	merge := func(at int, stack, locals []api.Type) {
		f := &frames[at]
		if !f.Reached {
			f.Reached, f.Types, f.Vars, grown = true, slices.Clone(stack), slices.Clone(locals), true
			return
		}
		for _, pair := range [][2][]api.Type{{f.Types, stack}, {f.Vars, locals}} {
			for k, t := range pair[1] {
				if old := pair[0][k]; old != t {
					pair[0][k] = w.join(old, t)
					grown = grown || pair[0][k] != old
				}
			}
		}
	}
	first := append(typeList(refTo(class)), m.Params...)
	merge(0, nil, append(first, make([]api.Type, m.Locals-len(first))...))
	for grown {
		grown = false
		for at, i := range m.Code {
			frames[at].At = at
			if !frames[at].Reached {
				continue
			}
			f := frames[at]
			for _, h := range m.Handlers {
				if h.From <= at && at < h.To {
					merge(h.At, typeList(refTo(h.Class)), f.Vars)
				}
			}
			takes, _ := w.size(m, i)
			rest, taken := f.Types[:len(f.Types)-takes], f.Types[len(f.Types)-takes:]
			stack, locals := append(slices.Clone(rest), w.puts(i, taken, f.Vars)...), slices.Clone(f.Vars)
			if i.Op == api.Store {
				locals[i.A] = taken[0]
			}
			for _, n := range w.nexts(i, at) {
				merge(n, stack, locals)
			}
		}
	}
	return frames
}

// check: the error of a class's method and its place, or its typing.
func (w world) check(class string, m api.Method) (api.Errno, int, []api.Frame) {
	if at, wrong := w.codeFault(m); wrong {
		return api.ErrCode, at, nil
	}
	if at, wrong := w.stackFault(m, w.reached(m)); wrong {
		return api.ErrStack, at, nil
	}
	frames := w.typing(class, m)
	for at, i := range m.Code {
		takes, _ := w.size(m, i)
		if f := frames[at]; f.Reached && !w.fits(m, i, f.Types[len(f.Types)-takes:], f.Vars) {
			return api.ErrKind, at, nil
		}
	}
	return api.OK, 0, frames
}
