package promises

import (
	"testing"

	"warden/api"
	"warden/warden"
)

func TestP8Example(t *testing.T) {
	p := wantAnswer(t, "the example", []string{exampleFile}, true, api.OK, api.Place{})
	f, e := p.Typing("A", "m")
	if e != api.OK || len(f) != 2 {
		t.Fatalf("Typing = %v, %d", f, e)
	}
	wantFrame(t, "the example", f[0], 0, nil, typeList(refTo("A")))
	wantFrame(t, "the example", f[1], 1, typeList(number), typeList(refTo("A")))
	for _, x := range []struct {
		c  []api.Ins
		e  api.Errno
		at int
	}{
		{code(do(api.Return)), api.ErrStack, 0}, {code(do(api.Nought), do(api.Return)), api.ErrKind, 1}, {code(do(api.Push, 7)), api.ErrCode, 0}, {code(do(api.Push, -1), do(api.Return)), api.OK, 0},
	} {
		c := example()
		c.Methods[0].Code = x.c
		wantAnswer(t, "the second example", filesOf(t, c), true, x.e, api.Place{At: x.at})
	}
}

func TestP8Errors(t *testing.T) {
	files := withFamily(t, plainMethod(0, 1, code(do(api.Return))))
	for _, checked := range []bool{false, true} {
		p := wantAnswer(t, "the family", files, checked, api.OK, api.Place{})
		for _, x := range [][2]string{
			{"None", "m"}, {"", "m"}, {"me", "m"}, {"Me", ""}, {"Me", "n"}, {"Me", "num"}, {"Dog", "num"}, {"Pup", "bark"}, {"Pet", "m"}, {"m", "Me"},
			{"Object", "m"}, {"Throw", "m"}, {"Nil", ""}, {"Depth", "Depth"},
		} {
			if f, e := p.Typing(x[0], x[1]); e != api.ErrEntry || len(f) != 0 {
				t.Errorf("checked: %v: Typing(%q) = %v, %d", checked, x, f, e)
			}
		}
		for _, x := range [][2]string{{"Me", "m"}, {"Pet", "num"}, {"Dog", "bark"}} {
			f, e := p.Typing(x[0], x[1])
			if checked && (e != api.OK || len(f) == 0) || !checked && (e != api.ErrArg || len(f) != 0) {
				t.Errorf("checked: %v: Typing(%q) = %v, %d", checked, x, f, e)
			}
		}
	}
}

// TestP8OwnMethod: of a method that stands in two classes, each has its own typing.
func TestP8OwnMethod(t *testing.T) {
	upper, lower := plainMethod(1, 1, code(do(api.Nought), do(api.Return))), plainMethod(1, 2, code(do(api.Push), do(api.Return)))
	p := wantAnswer(t, "two", filesOf(t, classOf("B", "A", lower), classOf("A", "Object", upper)), true, api.OK, api.Place{})
	a, _ := p.Typing("A", "m")
	b, _ := p.Typing("B", "m")
	wantFrame(t, "A", a[1], 1, typeList(null), typeList(refTo("A")))
	wantFrame(t, "B", b[1], 1, typeList(number), typeList(refTo("B"), nothing))
}

// TestP8Entry: ahead of the first instruction there is the object, the params, and nothing.
func TestP8Entry(t *testing.T) {
	m := plainMethod(0, 7, code(do(api.Return), do(api.Return)))
	m.Params = typeList(ints, number, refsOf("Me"), refTo("Own"))
	f := typingOf(t, "entry", m)
	wantFrame(t, "entry", f[0], 0, nil, typeList(refTo("Me"), ints, number, refsOf("Me"), refTo("Own"), nothing, nothing))
	wantUnreached(t, "entry", f[1], 1)
}

// twoWays: a method in which one value or the other is put, and comes to a place, of which the number is told too. If store is set, it is put into local 1 there, by both ways.
func twoWays(one, other api.Type, store bool) (api.Method, int) {
	c := code(do(api.Push), do(api.IfZero))
	stored := func() {
		if store {
			c = append(c, do(api.Store, 1))
		}
	}
	c = append(c, valueOf(one, len(c))...)
	stored()
	jump := len(c)
	c = append(c, do(api.Jump))
	c[1].A = len(c)
	c = append(c, valueOf(other, len(c))...)
	stored()
	c[jump].A = len(c)
	return plainMethod(1, 2, append(c, do(api.Return))), len(c)
}

// TestP8Joins: of all pairs of types, on the stack and in a local.
func TestP8Joins(t *testing.T) {
	w := worldOf(append(family(), classOf("Me", "Pet")))
	for one, t1 := range kinds {
		for other, t2 := range kinds {
			m, at := twoWays(t1, t2, false)
			what, join := one+" and "+other, w.join(t1, t2)
			wantFrame(t, what, typingOf(t, what, m)[at], at, typeList(join), typeList(refTo("Me"), nothing))
			if t1 != nothing && t2 != nothing {
				m, at = twoWays(t1, t2, true)
				wantFrame(t, what+", stored", typingOf(t, what, m)[at], at, nil, typeList(refTo("Me"), join))
			}
		}
	}
	for _, x := range [][3]api.Type{
		{refTo("Pup"), refTo("Cat"), refTo("Pet")}, {refTo("Pup"), refTo("Dog"), refTo("Dog")}, {refTo("Pup"), refTo("Own"), refTo("Object")}, {refTo("Own"), refTo("Nil2"), refTo("Throw")}, {refTo("Nil2"), refTo("Nil"), refTo("Nil")},
		{refsOf("Pet"), refsOf("Dog"), refTo("Object")}, {ints, refsOf("Dog"), refTo("Object")}, {ints, refTo("Dog"), refTo("Object")}, {null, ints, ints}, {null, refsOf("Pet"), refsOf("Pet")}, {null, refTo("Pup"), refTo("Pup")},
		{null, number, nothing}, {number, ints, nothing}, {number, refTo("Object"), nothing}, {refTo("Object"), nothing, nothing}, {null, nothing, nothing}, {number, number, number}, {null, null, null},
	} {
		if got := w.join(x[0], x[1]); got != x[2] {
			t.Errorf("the model joins %v and %v to %v, want %v", x[0], x[1], got, x[2])
		}
	}
}

// TestP8Loops: what comes back by a jump joins what came first, and goes round until nothing rises.
func TestP8Loops(t *testing.T) {
	me := refTo("Me")
	c := code(do(api.Nought), do(api.Store, 1), do(api.Load, 1), do(api.Store, 2), by(api.New, "Dog"), do(api.Store, 1), do(api.Push), do(api.IfZero, 2), do(api.Return))
	f := typingOf(t, "a loop", plainMethod(1, 3, c))
	wantFrame(t, "the head", f[2], 2, nil, typeList(me, refTo("Dog"), nothing))
	wantFrame(t, "behind the head", f[4], 4, nil, typeList(me, refTo("Dog"), refTo("Dog")))
	wantFrame(t, "behind", f[8], 8, nil, typeList(me, refTo("Dog"), refTo("Dog")))
	// each way round one more local has what the one ahead of it had
	c = code(do(api.Nought), do(api.Store, 1), do(api.Nought), do(api.Store, 2), do(api.Nought), do(api.Store, 3), do(api.Nought), do(api.Store, 4),
		do(api.Load, 3), do(api.Store, 4), do(api.Load, 2), do(api.Store, 3), do(api.Load, 1), do(api.Store, 2), by(api.New, "Cat"), do(api.Store, 1), do(api.Push), do(api.IfZero, 8), do(api.Return))
	cat := refTo("Cat")
	wantFrame(t, "many ways round", typingOf(t, "many ways round", plainMethod(1, 5, c))[8], 8, nil, typeList(me, cat, cat, cat, cat))
	c = code(by(api.New, "Cat"), do(api.Store, 0), do(api.Push), do(api.Store, 1), do(api.Push), do(api.IfZero, 0), do(api.Return))
	f = typingOf(t, "back to 0", plainMethod(1, 3, c))
	wantFrame(t, "back to 0", f[0], 0, nil, typeList(refTo("Pet"), nothing, nothing))
	wantFrame(t, "back to 0", f[2], 2, nil, typeList(cat, nothing, nothing))
	c = code(do(api.Load, 1), do(api.Push), do(api.GetRef), do(api.Pop), do(api.Nought), do(api.Store, 1), do(api.Push), do(api.IfZero, 0), do(api.Return))
	m := plainMethod(2, 2, c)
	m.Params = typeList(refsOf("Dog"))
	wantFrame(t, "Null and Refs", typingOf(t, "Null and Refs", m)[3], 3, typeList(refTo("Dog")), typeList(me, refsOf("Dog")))
	c = code(do(api.Nought), do(api.Dup), do(api.Pop), do(api.Push), do(api.GetRef), do(api.Push), do(api.IfZero, 1), do(api.Return))
	f = typingOf(t, "what is in null", plainMethod(2, 1, c))
	wantFrame(t, "what is in null", f[5], 5, typeList(null), typeList(me))
	wantFrame(t, "what is in null", f[1], 1, typeList(null), typeList(me))
}

// TestP8MixedArrays: what is in an array of references, where several may be there.
func TestP8MixedArrays(t *testing.T) {
	for _, x := range []struct {
		one, other, element api.Type
		fits                bool
	}{
		{refsOf("Pet"), refsOf("Pet"), refTo("Pet"), true}, {null, refsOf("Dog"), refTo("Dog"), true}, {null, null, null, true},
		{refsOf("Pet"), refsOf("Dog"), nothing, false}, {refsOf("Pet"), ints, nothing, false}, {refTo("Pet"), refsOf("Pet"), nothing, false}, {number, null, nothing, false}, {ints, null, nothing, false},
	} {
		m, at := twoWays(x.one, x.other, false)
		m.Stack = 2
		m.Code = append(m.Code[:at], do(api.Push), do(api.GetRef), do(api.Return))
		if !x.fits {
			wantChecked(t, "no array of references", m, api.ErrKind, at+1)
			continue
		}
		wantFrame(t, "mixed", typingOf(t, "mixed", m)[at+2], at+2, typeList(x.element), typeList(refTo("Me"), nothing))
	}
}

func handlerTo(from, to, at int, class string) api.Handler {
	return api.Handler{From: from, To: to, At: at, Class: class}
}

func TestP8Handlers(t *testing.T) {
	me, own := refTo("Me"), refTo("Own")
	store := func(k api.Type, local int) []api.Ins { return append(valueOf(k, 0), do(api.Store, local)) }
	// 0, 1: local 1 is an Int; 2, 3: then a Cat; 4, 5: then a Dog; 7: the handler
	c := after(store(number, 1), store(refTo("Cat"), 1), store(refTo("Dog"), 1), code(do(api.Return), do(api.Return)))
	for _, x := range []struct {
		from, to int
		local    api.Type
	}{
		{0, 1, nothing}, {0, 7, nothing}, {1, 3, nothing}, {2, 3, number}, {2, 4, number}, {3, 4, number}, {3, 5, nothing}, {4, 5, refTo("Cat")}, {4, 6, refTo("Cat")}, {5, 7, refTo("Pet")}, {6, 7, refTo("Dog")},
	} {
		f := typingOf(t, "a range", plainMethod(1, 2, c, handlerTo(x.from, x.to, 7, "Own")))
		wantFrame(t, "a range "+show(x), f[7], 7, typeList(own), typeList(me, x.local))
	}
	c = code(do(api.Jump, 2), do(api.Return), do(api.Return), do(api.Return))
	f := typingOf(t, "a range that is not reached", plainMethod(1, 1, c, handlerTo(1, 2, 3, "Own")))
	wantUnreached(t, "a range that is not reached", f[3], 3)
	f = typingOf(t, "a range that is reached in part", plainMethod(1, 1, c, handlerTo(1, 3, 3, "Own")))
	wantFrame(t, "a range that is reached in part", f[3], 3, typeList(own), typeList(me))
}

// TestP8HandlersMeet: at one place there may be what several handlers, and what instructions, bring there.
func TestP8HandlersMeet(t *testing.T) {
	me := refTo("Me")
	c := code(do(api.Jump, 1), do(api.Jump, 2), do(api.Return), do(api.Return))
	for _, x := range [][3]string{{"Nil2", "Own", "Throw"}, {"Nil", "Nil2", "Nil"}, {"Own", "Own", "Own"}, {"Throw", "Zero", "Throw"}, {"Cast", "Size", "Throw"}} {
		f := typingOf(t, "two handlers", plainMethod(1, 1, c, handlerTo(0, 1, 3, x[0]), handlerTo(1, 2, 3, x[1])))
		wantFrame(t, "two handlers", f[3], 3, typeList(refTo(x[2])), typeList(me))
		f = typingOf(t, "two handlers of one place", plainMethod(1, 1, c, handlerTo(0, 2, 3, x[0]), handlerTo(1, 2, 3, x[1])))
		wantFrame(t, "two handlers of one place", f[3], 3, typeList(refTo(x[2])), typeList(me))
	}
	w := worldOf(append(family(), classOf("Me", "Pet")))
	for name, k := range kinds {
		c := append(valueOf(k, 0), do(api.Return))
		at := len(c) - 1
		f := typingOf(t, name, plainMethod(1, 1, c, handlerTo(0, 1, at, "Own")))
		wantFrame(t, name, f[at], at, typeList(w.join(refTo("Own"), k)), typeList(me))
	}
	// a handler in its own range, in a loop: local 1 is what was thrown
	c = code(do(api.Return), do(api.Store, 1), do(api.Load, 1), do(api.Throw))
	f := typingOf(t, "in its own range", plainMethod(1, 2, c, handlerTo(0, 1, 1, "Own"), handlerTo(1, 4, 1, "Zero")))
	wantFrame(t, "in its own range", f[1], 1, typeList(refTo("Throw")), typeList(me, nothing))
	wantFrame(t, "in its own range", f[3], 3, typeList(refTo("Throw")), typeList(me, refTo("Throw")))
	// what a handler's handler has in its locals
	c = code(do(api.Push), do(api.Store, 1), do(api.Return), do(api.Store, 2), do(api.Return), do(api.Return))
	f = typingOf(t, "of a handler", plainMethod(1, 3, c, handlerTo(2, 3, 3, "Own"), handlerTo(4, 5, 5, "Nil")))
	wantFrame(t, "of a handler", f[5], 5, typeList(refTo("Nil")), typeList(me, number, refTo("Own")))
}

// TestP8Big: as many places, locals and handlers as a file holds are no trouble.
func TestP8Big(t *testing.T) {
	var c []api.Ins
	for k := 252; k > 0; k-- {
		c = append(c, do(api.Load, k), do(api.Store, k+1))
	}
	from := len(c)
	c = append(code(do(api.Jump, 1)), c...)
	c = append(c, by(api.New, "Own"), do(api.Store, 1), do(api.Jump, 1))
	var handlers []api.Handler
	for len(handlers) < 90 {
		handlers = append(handlers, handlerTo(1, from, len(c), "Own"))
		c = append(c, do(api.Throw))
	}
	m := plainMethod(255, 255, c, handlers...)
	m.Params = filled(100, refTo("Own"))
	wantChecked(t, "locals that are none", m, api.ErrKind, 1)
	m.Params = filled(254, refTo("Nil2"))
	m.Handlers, m.Code = m.Handlers[:20], m.Code[:len(m.Code)-70]
	f := typingOf(t, "locals that rise one by one", m)
	wantFrame(t, "locals that rise one by one", f[1], 1, nil, append(append(typeList(refTo("Me")), filled(253, refTo("Throw"))...), refTo("Nil2")))
	pushes := plainMethod(255, 255, after(times(255, do(api.Nought)), times(1400, do(api.Swap)), code(do(api.Return))))
	g := typingOf(t, "values and locals", pushes)
	wantFrame(t, "values and locals", g[1655], 1655, filled(255, null), append(typeList(refTo("Me")), filled(254, nothing)...))
}

// TestP8Again: a typing hangs on nothing but the files.
func TestP8Again(t *testing.T) {
	for seed := range int64(200) {
		r := newMaker(seed)
		r.make()
		files := withFamily(t, r.m)
		p, e, _ := warden.Load(files, true)
		q, again, _ := warden.Load(files, true)
		if e != again {
			t.Fatalf("Load = %d, then %d", e, again)
		}
		if e != api.OK {
			continue
		}
		want, _ := p.Typing("Me", "m")
		wantTyping(t, "again", p, "m", want)
		wantTyping(t, "another program", q, "m", want)
	}
}
