package promises

import (
	"strconv"
	"testing"

	"warden/api"
)

func TestP7CodeEmptyAndLocals(t *testing.T) {
	wantChecked(t, "no instructions", plainMethod(255, 255, nil), api.ErrCode, 0)
	wantChecked(t, "no instructions, a bad handler", plainMethod(1, 1, nil, api.Handler{From: 7, Class: "Object"}), api.ErrCode, 0)
	for params := range 4 {
		for locals := range 6 {
			m := plainMethod(1, locals, code(do(api.Return)))
			m.Params = filled(params, number)
			want := api.OK
			if locals < 1+params {
				want = api.ErrCode
			}
			wantChecked(t, strconv.Itoa(params)+" params, "+strconv.Itoa(locals)+" locals", m, want, 0)
			m.Code = code(do(api.Pop), do(api.Push))
			if want == api.ErrCode {
				wantChecked(t, "few locals, bad code", m, want, 0)
			}
		}
	}
	m := plainMethod(0, 255, code(do(api.Return)))
	m.Params = filled(255, number)
	wantChecked(t, "255 params, 255 locals", m, api.ErrCode, 0)
	m.Params = m.Params[:254]
	wantChecked(t, "254 params, 255 locals", m, api.OK, 0)
}

// missing: instructions that need something that is not there, in code with 3 instructions, 2 locals.
func missing() []api.Ins {
	list := code(
		do(api.Load, 2), do(api.Load, 255), do(api.Store, 2), do(api.Store, 255),
		do(api.Jump, 3), do(api.Jump, 65535), do(api.IfZero, 3), do(api.IfLess, 3), do(api.IfSame, 3), do(api.IfSame, 4),
		by(api.Get, "None", "n"), by(api.Get, "Me", "none"), by(api.Get, "Pet", "d"), by(api.Get, "Object", "n"), by(api.Get, "Pet", "num"),
		by(api.Put, "None", "n"), by(api.Put, "Me", "none"), by(api.Put, "Pet", "d"), by(api.Put, "Zero", "n"), by(api.Put, "Pet", "num"),
		by(api.Call, "None", "m"), by(api.Call, "Me", "bark"), by(api.Call, "Pet", "bark"), by(api.Call, "Pet", "m"), by(api.Call, "Object", "num"), by(api.Call, "Pet", "n"))
	for _, op := range []int{api.New, api.NewRefs, api.To, api.Is} {
		list = append(list, by(op, "None"), by(op, "pet"), by(op, "m"))
	}
	return list
}

func TestP7CodeMissing(t *testing.T) {
	end := do(api.Return)
	for _, bad := range missing() {
		what := show(bad)
		wantChecked(t, what, plainMethod(9, 2, code(bad, end, end)), api.ErrCode, 0)
		wantChecked(t, what+", not reached", plainMethod(9, 2, code(end, bad, end)), api.ErrCode, 1)
		wantChecked(t, what+", last", plainMethod(9, 2, code(end, end, bad)), api.ErrCode, 2)
		wantChecked(t, what+", behind what is wrong otherwise", plainMethod(9, 2, code(do(api.Pop), bad, end)), api.ErrCode, 1)
		wantChecked(t, what+", twice", plainMethod(9, 2, code(end, bad, bad)), api.ErrCode, 1)
	}
}

// TestP7CodeThere: what is there, though only just, or but from above.
func TestP7CodeThere(t *testing.T) {
	for _, i := range code(
		do(api.Load, 1), do(api.Store, 1), do(api.Jump, 0), do(api.Jump, 2), do(api.IfZero, 2), do(api.IfLess, 0), do(api.IfSame, 2),
		by(api.Get, "Me", "n"), by(api.Get, "Pup", "d"), by(api.Get, "Pup", "n"), by(api.Put, "Cat", "s"), by(api.Put, "Dog", "d"),
		by(api.Call, "Me", "m"), by(api.Call, "Me", "num"), by(api.Call, "Pup", "bark"), by(api.Call, "Pet", "take"),
		by(api.New, "Pup"), by(api.New, "Object"), by(api.NewRefs, "Me"), by(api.NewRefs, "Depth"), by(api.To, "Nil2"), by(api.Is, "Throw")) {
		wantChecked(t, show(i)+", not reached", plainMethod(0, 2, code(do(api.Return), i, do(api.Return))), api.OK, 0)
	}
}

func TestP7CodeLast(t *testing.T) {
	for op := range 32 {
		i := do(op)
		switch op {
		case api.New, api.NewRefs, api.To, api.Is:
			i.Class = "Pet"
		case api.Get, api.Put:
			i.Class, i.Member = "Pet", "n"
		case api.Call:
			i.Class, i.Member = "Pet", "num"
		}
		want, at := api.ErrCode, 2
		if op == api.Jump || op == api.Return || op == api.Throw {
			want, at = api.OK, 0
		}
		end := do(api.Return)
		wantChecked(t, "the last Op "+strconv.Itoa(op), plainMethod(0, 1, code(end, end, i)), want, at)
		if want != api.OK {
			wantChecked(t, "the only Op "+strconv.Itoa(op), plainMethod(9, 1, code(i)), want, 0)
		}
	}
}

func TestP7CodeHandlers(t *testing.T) {
	c := code(do(api.Return), do(api.Throw), do(api.Throw))
	good := api.Handler{From: 0, To: 3, At: 2, Class: "Throw"}
	for _, h := range []api.Handler{
		good, {From: 0, To: 1, At: 1, Class: "Own"}, {From: 2, To: 3, At: 1, Class: "Nil2"}, {From: 1, To: 2, At: 1, Class: "Memory"},
	} {
		wantChecked(t, show(h), plainMethod(1, 1, c, h), api.OK, 0)
	}
	for _, h := range []api.Handler{
		{From: 0, To: 0, At: 1, Class: "Nil"}, {From: 1, To: 1, At: 1, Class: "Nil"}, {From: 2, To: 1, At: 1, Class: "Nil"}, {From: 65535, To: 3, At: 1, Class: "Nil"}, {From: 65535, To: 65535, At: 1, Class: "Nil"}, {From: 3, To: 3, At: 1, Class: "Nil"},
		{From: 0, To: 4, At: 1, Class: "Nil"}, {From: 2, To: 4, At: 1, Class: "Nil"}, {From: 1, To: 65535, At: 1, Class: "Nil"},
		{From: 0, To: 3, At: 3, Class: "Nil"}, {From: 1, To: 3, At: 65535, Class: "Nil"},
		{From: 0, To: 3, At: 1, Class: "Object"}, {From: 2, To: 3, At: 1, Class: "Me"}, {From: 1, To: 3, At: 1, Class: "Pet"},
	} {
		wantChecked(t, show(h), plainMethod(1, 1, c, h), api.ErrCode, h.From)
		wantChecked(t, show(h)+" behind a good one", plainMethod(1, 1, c, good, h), api.ErrCode, h.From)
		wantChecked(t, show(h)+" ahead of bad ones", plainMethod(1, 1, c, h, api.Handler{From: 0, Class: "Nil"}, api.Handler{From: 1, Class: "Nil"}), api.ErrCode, h.From)
		wantChecked(t, show(h)+" and a stack that is wrong", plainMethod(0, 1, code(do(api.Pop), do(api.Return), do(api.Return)), h), api.ErrCode, h.From)
		wantChecked(t, show(h)+" and an instruction", plainMethod(1, 1, code(do(api.Return), do(api.Return), do(api.Pop)), h), api.ErrCode, 2)
	}
}

// stackRow: an instruction, and how many values it takes and puts.
type stackRow struct {
	ins         api.Ins
	takes, puts int
}

func stackRows() []stackRow {
	return []stackRow{
		{do(api.Push), 0, 1}, {do(api.Nought), 0, 1}, {do(api.Load), 0, 1}, {do(api.Store), 1, 0}, {do(api.Pop), 1, 0}, {do(api.Dup), 1, 2}, {do(api.Swap), 2, 2},
		{do(api.Add), 2, 1}, {do(api.Sub), 2, 1}, {do(api.Mul), 2, 1}, {do(api.Div), 2, 1}, {do(api.Rem), 2, 1},
		{do(api.Jump), 0, 0}, {do(api.IfZero), 1, 0}, {do(api.IfLess), 2, 0}, {do(api.IfSame), 2, 0},
		{by(api.New, "Pet"), 0, 1}, {by(api.Get, "Pet", "n"), 1, 1}, {by(api.Put, "Pet", "n"), 2, 0},
		{by(api.Call, "Pet", "none"), 1, 0}, {by(api.Call, "Pet", "num"), 1, 1}, {by(api.Call, "Dog", "take"), 3, 1},
		{do(api.NewInts), 1, 1}, {by(api.NewRefs, "Pet"), 1, 1}, {do(api.Length), 1, 1},
		{do(api.GetInt), 2, 1}, {do(api.PutInt), 3, 0}, {do(api.GetRef), 2, 1}, {do(api.PutRef), 3, 0},
		{by(api.To, "Pet"), 1, 1}, {by(api.Is, "Pet"), 1, 1}, {do(api.Print), 1, 0},
	}
}

// TestP7StackOfOps: each instruction with all heights ahead of it, and all rooms. The values fit by no means: of that nothing is told here.
func TestP7StackOfOps(t *testing.T) {
	for _, row := range stackRows() {
		for height := range 6 {
			i := row.ins
			if isJump(i.Op) {
				i.A = height + 1
			}
			for stack := height; stack < 8; stack++ {
				m := plainMethod(stack, 1, after(times(height, do(api.Push)), code(i, do(api.Return))))
				e := errnoOf(t, m)
				isWrong := height < row.takes || height-row.takes+row.puts > stack
				if isWrong {
					wantChecked(t, show(i)+" on "+strconv.Itoa(height)+" of "+strconv.Itoa(stack), m, api.ErrStack, height)
				} else if e != api.OK && e != api.ErrKind {
					t.Errorf("%v on %d of %d: %d", i, height, stack, e)
				}
			}
		}
	}
}

// errnoOf: the answer of the check of the method, whichever it is.
func errnoOf(t *testing.T, m api.Method) api.Errno {
	t.Helper()
	want, at, _ := worldOf(append(family(), classOf("Me", "Pet", m))).check("Me", m)
	wantChecked(t, "by the model", m, want, at)
	return want
}

// TestP7StackOfEnds: what ends a method takes no more than it needs, and leaves as much as there may be.
func TestP7StackOfEnds(t *testing.T) {
	for height := range 5 {
		pushes := times(height, by(api.New, "Own"))
		want := api.OK
		if height == 0 {
			want = api.ErrStack
		}
		wantChecked(t, "Throw", plainMethod(height, 1, after(pushes, code(do(api.Throw)))), want, height)
		m := plainMethod(height, 1, after(pushes, code(do(api.Return))))
		wantChecked(t, "Return of nothing", m, api.OK, 0)
		m.Ret = refTo("Throw")
		wantChecked(t, "Return", m, want, height)
	}
	wantChecked(t, "255 values", plainMethod(255, 1, after(times(255, do(api.Push)), code(do(api.Return)))), api.OK, 0)
	wantChecked(t, "256 values", plainMethod(255, 1, after(times(256, do(api.Push)), code(do(api.Return)))), api.ErrStack, 255)
}

func TestP7StackTwoHeights(t *testing.T) {
	for what, x := range map[string]struct {
		c  []api.Ins
		at int
	}{
		"by two ways":            {code(do(api.Push), do(api.IfZero, 3), do(api.Push), do(api.Return)), 3},
		"by a jump back":         {code(do(api.Push), do(api.Push), do(api.Jump, 1)), 1},
		"at 0":                   {code(do(api.Push), do(api.Jump, 0)), 0},
		"in a loop":              {code(do(api.Push), do(api.Dup), do(api.Dup), do(api.IfZero, 1), do(api.Return)), 1},
		"all that comes behind":  {code(do(api.Push), do(api.IfZero, 4), do(api.Push), do(api.Jump, 6), do(api.Jump, 5), do(api.Jump, 6), do(api.Return)), 6},
		"which goes on from two": {code(do(api.Jump, 2), do(api.Return), do(api.Push), do(api.IfZero, 5), do(api.Push), do(api.Jump, 1)), 1},
		// at 9 there are 0 and 1, of which 1 alone goes on, to 1, where one more is taken
		"one of them goes on":   {code(do(api.Jump, 3), do(api.Pop), do(api.Return), do(api.Push), do(api.IfZero, 7), do(api.Jump, 9), do(api.Return), do(api.Push), do(api.Jump, 9), do(api.Pop), do(api.Jump, 1)), 1},
		"the other one goes on": {code(do(api.Jump, 3), do(api.Pop), do(api.Return), do(api.Push), do(api.IfZero, 7), do(api.Push), do(api.Jump, 9), do(api.Jump, 9), do(api.Return), do(api.Pop), do(api.Jump, 1)), 1},
	} {
		wantChecked(t, what, plainMethod(3, 1, x.c), api.ErrStack, x.at)
	}
	same := code(do(api.Push), do(api.IfZero, 4), do(api.Push), do(api.Jump, 5), do(api.Push), do(api.Return))
	wantChecked(t, "two ways of one height", plainMethod(1, 1, same), api.OK, 0)
}

func TestP7StackUnreached(t *testing.T) {
	wantChecked(t, "behind a Return", plainMethod(1, 1, code(do(api.Return), do(api.Pop), do(api.Pop), do(api.Return))), api.OK, 0)
	wantChecked(t, "jumped over", plainMethod(1, 1, code(do(api.Jump, 3), do(api.Push), do(api.Push), do(api.Return))), api.OK, 0)
	wantChecked(t, "into itself", plainMethod(1, 1, code(do(api.Return), do(api.Push), do(api.Jump, 1))), api.OK, 0)
	dead := api.Handler{From: 1, To: 2, At: 3, Class: "Nil"}
	wantChecked(t, "a handler of what is not reached", plainMethod(0, 1, code(do(api.Return), do(api.Return), do(api.Return), do(api.Add), do(api.Return)), dead), api.OK, 0)
}

func TestP7StackHandlers(t *testing.T) {
	pop, push, ret := do(api.Pop), do(api.Push), do(api.Return)
	own := func(from, to, at int) api.Handler { return api.Handler{From: from, To: to, At: at, Class: "Own"} }
	wantChecked(t, "one value there", plainMethod(1, 1, code(ret, pop, ret), own(0, 1, 1)), api.OK, 0)
	wantChecked(t, "not two", plainMethod(2, 1, code(ret, pop, pop, ret), own(0, 1, 1)), api.ErrStack, 2)
	wantChecked(t, "whatever was on the stack", plainMethod(4, 1, code(push, push, push, ret, pop, ret), own(0, 4, 4)), api.OK, 0)
	wantChecked(t, "more than Stack behind it", plainMethod(1, 1, code(ret, push, ret), own(0, 1, 1)), api.ErrStack, 1)
	wantChecked(t, "another height there", plainMethod(3, 1, code(push, push, ret), own(0, 1, 2)), api.ErrStack, 2)
	wantChecked(t, "in its own range", plainMethod(1, 1, code(ret, pop, ret), own(0, 3, 1)), api.OK, 0)
	wantChecked(t, "at 0", plainMethod(1, 1, code(ret), own(0, 1, 0)), api.ErrStack, 0)
	wantChecked(t, "from where too few are", plainMethod(2, 1, code(do(api.Jump, 2), ret, pop, ret, pop, pop, ret), own(2, 3, 4)), api.ErrStack, 2)
	wantChecked(t, "to a lesser place, from where too few are", plainMethod(2, 1, code(do(api.Jump, 3), do(api.Add), ret, pop, ret), own(3, 4, 1)), api.ErrStack, 1)
	wantChecked(t, "from a handler's handler", plainMethod(2, 1, code(ret, ret, ret, do(api.Add), ret), own(0, 1, 1), own(1, 2, 3)), api.ErrStack, 3)
	wantChecked(t, "not from To on", plainMethod(1, 1, code(ret, ret, do(api.Add), ret), own(1, 2, 2)), api.OK, 0)
	for _, c := range [][]api.Ins{code(ret, ret), code(do(api.Jump, 1), ret)} {
		wantChecked(t, "Stack 0", plainMethod(0, 1, c, own(0, 1, 1)), api.ErrStack, 0)
	}
	wantChecked(t, "Stack 0, the second", plainMethod(0, 1, code(do(api.Jump, 1), ret, ret), own(1, 2, 2)), api.ErrStack, 1)
	wantChecked(t, "Stack 0, not reached", plainMethod(0, 1, code(ret, ret, ret), own(1, 2, 2)), api.OK, 0)
	wantChecked(t, "Stack 0, a lesser place goes on from it", plainMethod(0, 1, code(do(api.Jump, 3), pop, ret, do(api.Jump, 1)), own(3, 4, 2)), api.ErrStack, 1)
}

// TestP7Order: code ahead of stacks, stacks ahead of kinds, at whatever places.
func TestP7Order(t *testing.T) {
	kind, stack, bad := code(do(api.Nought), do(api.Print)), code(do(api.Pop)), code(do(api.Load, 9))
	ret := code(do(api.Return))
	wantChecked(t, "kind", plainMethod(2, 1, after(kind, kind, ret)), api.ErrKind, 1)
	wantChecked(t, "kind and stack", plainMethod(2, 1, after(kind, stack, ret)), api.ErrStack, 2)
	wantChecked(t, "stack and kind", plainMethod(2, 1, after(stack, kind, ret)), api.ErrStack, 0)
	wantChecked(t, "kind, stack and code", plainMethod(2, 1, after(kind, stack, ret, bad, ret)), api.ErrCode, 4)
	wantChecked(t, "kind and a handler", plainMethod(2, 1, after(kind, ret), api.Handler{From: 5, Class: "Nil"}), api.ErrCode, 5)
}

// TestP7FirstMethod: by files, and by their order in the file, whatever their errors are.
func TestP7FirstMethod(t *testing.T) {
	named := func(name string, c ...api.Ins) api.Method {
		m := plainMethod(2, 1, c)
		m.Name = name
		return m
	}
	ret := do(api.Return)
	good, kind, stack, bad := named("a", ret), named("b", do(api.Nought), do(api.Print), ret), named("c", do(api.Pop), ret), named("d")
	for _, x := range []struct {
		methods []api.Method
		e       api.Errno
		place   api.Place
	}{
		{[]api.Method{good, kind, stack, bad}, api.ErrKind, api.Place{File: mine, Method: 1, At: 1}},
		{[]api.Method{stack, good, bad, kind}, api.ErrStack, api.Place{File: mine}},
		{[]api.Method{good, bad}, api.ErrCode, api.Place{File: mine, Method: 1}},
	} {
		wantAnswer(t, "methods", withFamily(t, x.methods...), true, x.e, x.place)
	}
	files := filesOf(t, classOf("A", "Object", good), classOf("B", "Object", good, kind), classOf("C", "Object", bad))
	wantAnswer(t, "files", files, true, api.ErrKind, api.Place{File: 1, Method: 1, At: 1})
	wantAnswer(t, "no methods", filesOf(t, classOf("A", "Object")), true, api.OK, api.Place{})
	wantAnswer(t, "no files", nil, true, api.OK, api.Place{})
}
