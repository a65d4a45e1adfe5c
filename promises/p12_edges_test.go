package promises

import (
	"math"
	"testing"

	"warden/api"
)

// TestP12Throws: all that throws of itself, and Throw: not caught, caught at its place, caught by the frame that called, and missed by a range that ends ahead of it or begins behind it.
func TestP12Throws(t *testing.T) {
	for class, c := range throwers() {
		at := len(c)
		c = after(c, code(do(api.Return), do(api.Pop), do(api.Push, 9), do(api.Print), do(api.Return)))
		over := api.Outcome{Kind: api.Over, Class: class, Steps: at}
		done := api.Outcome{Kind: api.Done, Out: []int{9}, Steps: at + 4}
		wantPairOfMe(t, class, 50, over, roomyMethod(c))
		wantPairOfMe(t, class+", caught", 50, done, roomyMethod(c, handlerTo(at-1, at, at+1, class)))
		wantPairOfMe(t, class+", caught as Throw", 50, done, roomyMethod(c, handlerTo(0, at, at+1, "Throw")))
		wantPairOfMe(t, class+", out of range", 50, over, roomyMethod(c, handlerTo(0, at-1, at+1, class), handlerTo(at, at+5, at+1, class)))
		wantPairOfMe(t, class+", another class", 50, over, roomyMethod(c, handlerTo(0, at, at+1, "Nil2"), handlerTo(0, at, at+1, "Depth")))
		calls := code(do(api.Push, 5), do(api.Load), by(api.Call, "Me", "deep"), do(api.Return), do(api.Pop), do(api.Push, 6), do(api.Print), do(api.Return))
		done = api.Outcome{Kind: api.Done, Out: []int{6}, Steps: at + 7}
		wantPairOfMe(t, class+", caught by the caller", 50, done, roomyMethod(calls, handlerTo(2, 3, 4, class)), named("deep", roomyMethod(c, handlerTo(at, at+5, at+1, "Throw"))))
		over.Steps = at + 3
		wantPairOfMe(t, class+", missed by the caller", 50, over, roomyMethod(calls, handlerTo(0, 2, 4, class), handlerTo(3, 8, 4, class)), named("deep", roomyMethod(c)))
	}
}

// TestP12Nil: each instruction that null makes throw, whatever else it has.
func TestP12Nil(t *testing.T) {
	null := do(api.Nought)
	for what, c := range map[string][]api.Ins{
		"Get": code(null, by(api.Get, "Pet", "n")), "Put": code(null, do(api.Push), by(api.Put, "Pet", "n")), "Put of null": code(null, null, by(api.Put, "Pet", "r")),
		"Call": code(null, by(api.Call, "Pet", "none")), "Call with params": code(null, do(api.Push), do(api.Load), by(api.Call, "Pet", "take")),
		"Length": code(null, do(api.Length)), "Throw": code(null, do(api.Throw)), "Throw of an element": code(do(api.Push, 1), by(api.NewRefs, "Own"), do(api.Push), do(api.GetRef), do(api.Throw)),
		"GetInt": code(null, do(api.Push), do(api.GetInt)), "GetInt outside": code(null, do(api.Push, -1), do(api.GetInt)), "GetRef": code(null, do(api.Push, 9), do(api.GetRef)),
		"PutInt": code(null, do(api.Push, -1), do(api.Push), do(api.PutInt)), "PutRef": code(null, do(api.Push), null, do(api.PutRef)), "a field's": code(do(api.Load), by(api.Get, "Pet", "r"), by(api.Get, "Pet", "n")), "a field's array": code(do(api.Load), by(api.Get, "Pet", "i"), do(api.Length)),
	} {
		wantPairOfMe(t, what, 9, api.Outcome{Kind: api.Over, Class: "Nil", Steps: len(c)}, roomyMethod(append(c, do(api.Return))))
	}
}

// TestP12Ranges: of the handlers that have the place in their range, the first with a class that goes.
func TestP12Ranges(t *testing.T) {
	c := append(code(by(api.New, "Nil2"), do(api.Throw)), times(9, do(api.Return))...)
	h := handlerTo
	for _, x := range []struct {
		at       int // 0: not caught
		handlers []api.Handler
	}{
		{0, nil}, {3, []api.Handler{h(0, 11, 3, "Throw")}}, {3, []api.Handler{h(1, 2, 3, "Nil")}}, {1, []api.Handler{h(1, 2, 1, "Nil2")}}, {10, []api.Handler{h(1, 11, 10, "Nil2")}},
		{0, []api.Handler{h(0, 1, 3, "Throw")}}, {0, []api.Handler{h(2, 11, 3, "Throw")}}, {0, []api.Handler{h(0, 11, 3, "Own")}}, {0, []api.Handler{h(0, 11, 3, "Index"), h(0, 11, 4, "Own")}},
		{4, []api.Handler{h(0, 11, 3, "Own"), h(0, 1, 5, "Nil"), h(2, 9, 6, "Nil"), h(1, 3, 4, "Nil"), h(1, 2, 7, "Nil2")}}, {5, []api.Handler{h(0, 11, 5, "Throw"), h(1, 2, 4, "Nil2")}}, {4, []api.Handler{h(1, 2, 4, "Nil2"), h(0, 11, 5, "Throw")}},
	} {
		both := pairOf(t, wantAnswer(t, show(x), withFamily(t, roomyMethod(c, x.handlers...)), true, api.OK, api.Place{}), nil, 9)
		both.wantAlike(t, show(x), 2)
		f := both.fast.State().Frames
		if isCaught := len(f) == 1; isCaught != (x.at > 0) || isCaught && f[0].At != x.at {
			t.Errorf("%s: %+v", show(x), f)
		}
		both.wantAlike(t, show(x), 3)
	}
}

// TestP12Thrown: a thing that is thrown again and again by the handler itself.
func TestP12Thrown(t *testing.T) {
	m := roomyMethod(code(do(api.Push), do(api.NewInts), do(api.Length), do(api.Pop), do(api.Nought), do(api.Throw)), handlerTo(0, 6, 5, "Throw"))
	both := pairOf(t, wantAnswer(t, "again", withFamily(t, m), true, api.OK, api.Place{}), nil, 1)
	both.wantAlike(t, "again", 6)
	for range 20 {
		both.wantAlike(t, "again", 7)
	}
	wantFrames(t, "again", both.fast, api.Frame{Class: "Me", Method: "m", At: 5, Stack: []api.Word{{V: 1}}, Locals: []api.Word{{V: 8}, {}, {}, {}}})
}

func TestP12Depth(t *testing.T) {
	wantPairOf(t, "deep", 0, api.Outcome{Kind: api.Over, Class: "Depth", Steps: 40}, classOf("Me", "Object", diver()))
	m := diver()
	m.Code = append(m.Code, do(api.Pop), do(api.Return))
	m.Handlers = append(m.Handlers, handlerTo(1, 2, 3, "Depth"))
	wantPairOf(t, "caught", 0, api.Outcome{Kind: api.Done, Steps: 61}, classOf("Me", "Object", m))
	// null comes ahead of the number of frames
	m.Code, m.Stack = code(do(api.Load), by(api.Call, "Me", "m"), do(api.Return), do(api.Nought), by(api.Call, "Me", "m"), do(api.Return)), 2
	wantPairOf(t, "null there", 0, api.Outcome{Kind: api.Over, Class: "Nil", Steps: 42}, classOf("Me", "Object", m))
}

// TestP12Override: a method of a class below comes first, also where the class above is named; the class between has it from above.
func TestP12Override(t *testing.T) {
	tells := func(n int) api.Method {
		m := named("p", plainMethod(1, 4, code(do(api.Push, n), do(api.Return))))
		m.Params, m.Ret = typeList(number, refTo("A")), number
		return m
	}
	var c []api.Ins
	for _, class := range []string{"A", "B", "C", "D"} {
		for _, name := range []string{"A", "B", "C", "D"}[:class[0]-'A'+1] {
			c = append(c, by(api.New, class), do(api.Push, 7), do(api.Nought), by(api.Call, name, "p"), do(api.Print))
		}
	}
	steps := len(c) + 2*10 + 1
	out := []int{1, 1, 1, 3, 3, 3, 3, 3, 3, 3}
	wantPairOf(t, "below", 10, api.Outcome{Kind: api.Done, Out: out, Steps: steps}, classOf("D", "C"), classOf("C", "B", tells(3)), classOf("B", "A"), classOf("A", "Object", tells(1)),
		classOf("Me", "Object", roomyMethod(append(c, do(api.Return)))))
}

// TestP12Entry: the first frame is of the method that the class has, itself or from above, and its object of the class.
func TestP12Entry(t *testing.T) {
	tells := func(n int) api.Method {
		m := plainMethod(2, 3, code(do(api.Load, 1), do(api.Push, n), do(api.Mul), do(api.Return)))
		m.Params, m.Ret = typeList(number), number
		return m
	}
	p := wantAnswer(t, "four", filesOf(t, classOf("D", "C"), classOf("C", "B", tells(3)), classOf("B", "A"), classOf("A", "Object", tells(1))), true, api.OK, api.Place{})
	for class, n := range map[string]int{"A": 1, "B": 1, "C": 3, "D": 3} {
		both := pair{startOf(t, p, class, "m", []int{5}, 0), startAs(t, true, p, class, "m", []int{5}, 0)}
		both.wantAlike(t, class, 0)
		both.wantAlike(t, class, 9)
		wantOutcome(t, class, both.fast, api.Outcome{Kind: api.Done, Value: 5 * n, Steps: 4})
	}
}

// TestP12Fields: of classes that are below one another.
func TestP12Fields(t *testing.T) {
	classes := layersUsed()
	steps := len(classes[3].Methods[0].Code)
	wantPairOf(t, "layers", 99, api.Outcome{Kind: api.Done, Steps: steps}, classes...)
	r := startAs(t, true, wantAnswer(t, "layers", filesOf(t, classes...), true, api.OK, api.Place{}), "Me", "m", nil, 99)
	r.Step(steps - 1)
	list := []api.Word{{V: 11}, {V: 10}, {V: 8}, {V: 14}, {V: 15}, {V: 9}}
	if s := r.State(); len(s.Heap) != 10 || !sameThing(s.Heap[8], objectOf("Me", list...)) || !sameThing(s.Heap[7], objectOf("Me", make([]api.Word, 6)...)) {
		t.Errorf("the heap: %+v", s.Heap)
	}
}

// TestP12NoElements: arrays of length 0 have a length, an address and no elements.
func TestP12NoElements(t *testing.T) {
	for _, array := range [][]api.Ins{code(do(api.Push, 0), do(api.NewInts)), code(do(api.Push, 0), by(api.NewRefs, "Me"))} {
		isInts := array[1].Op == api.NewInts
		get, put, value := do(api.GetRef), do(api.PutRef), do(api.Load)
		if isInts {
			get, put, value = do(api.GetInt), do(api.PutInt), do(api.Push, 4)
		}
		done := api.Outcome{Kind: api.Done, Out: []int{0}, Steps: 5}
		wantPairOfMe(t, "Length", 1, done, roomyMethod(after(array, code(do(api.Length), do(api.Print), do(api.Return)))))
		for _, n := range []int{0, -1, 1, math.MinInt32, math.MaxInt32} {
			wantPairOfMe(t, "Get", 1, api.Outcome{Kind: api.Over, Class: "Index", Steps: 4}, roomyMethod(after(array, code(do(api.Push, n), get, do(api.Return)))))
			wantPairOfMe(t, "Put", 1, api.Outcome{Kind: api.Over, Class: "Index", Steps: 5}, roomyMethod(after(array, code(do(api.Push, n), value, put, do(api.Return)))))
		}
		same := after(array, array, code(do(api.IfSame, 8), do(api.Push, 7), do(api.Print), do(api.Return), do(api.Return)))
		wantPairOfMe(t, "IfSame", 2, api.Outcome{Kind: api.Done, Out: []int{7}, Steps: 8}, roomyMethod(same))
		wantPairOfMe(t, "room", 1, api.Outcome{Kind: api.Over, Class: "Memory", Steps: 4}, roomyMethod(same))
	}
}

// TestP12Elements: each element of an array is one of its own; those outside throw.
func TestP12Elements(t *testing.T) {
	c := code(do(api.Push, 3), do(api.NewInts), do(api.Store, 1), do(api.Push, 3), by(api.NewRefs, "Pet"), do(api.Store, 2))
	out := []int{}
	for n := range 3 {
		c = append(c, do(api.Load, 1), do(api.Push, n), do(api.Push, 70+n), do(api.PutInt), do(api.Load, 2), do(api.Push, n), by(api.New, []string{"Pet", "Dog", "Pup"}[n]), do(api.PutRef))
	}
	for n := range 3 {
		c = append(c, do(api.Load, 1), do(api.Push, n), do(api.GetInt), do(api.Print), do(api.Load, 2), do(api.Push, n), do(api.GetRef), by(api.Is, "Dog"), do(api.Print))
		out = append(out, 70+n, min(n, 1))
	}
	wantPairOfMe(t, "elements", 99, api.Outcome{Kind: api.Done, Out: out, Steps: len(c) + 1}, roomyMethod(append(c, do(api.Return))))
	for _, n := range []int{-1, 3, math.MinInt32, math.MaxInt32} {
		wantPairOfMe(t, "outside", 99, api.Outcome{Kind: api.Over, Class: "Index", Out: out, Steps: len(c) + 3}, roomyMethod(append(c, do(api.Load, 1), do(api.Push, n), do(api.GetInt), do(api.Return))))
	}
}

// TestP12Memory: the room that is just enough, and one less; what throws takes none of it.
func TestP12Memory(t *testing.T) {
	for _, x := range taking() {
		m := roomyMethod(append(x.c, do(api.Return)))
		wantPairOfMe(t, x.what, x.room, api.Outcome{Kind: api.Done, Steps: len(m.Code)}, m)
		wantPairOfMe(t, x.what+", too many", x.room-1, api.Outcome{Kind: api.Over, Class: "Memory", Steps: len(x.c)}, m)
		wantPairOfMe(t, x.what+", none", 0, api.Outcome{Kind: api.Over, Class: "Memory", Steps: len(x.c)}, m)
	}
	for n, class := range map[int]string{-1: "Size", math.MinInt32: "Size", 2000: "Memory", 2001: "Memory", math.MaxInt32: "Memory"} {
		for _, i := range []api.Ins{do(api.NewInts), by(api.NewRefs, "Me")} {
			for _, heap := range []int{0, api.MaxHeap} {
				wantPairOfMe(t, show(n), heap, api.Outcome{Kind: api.Over, Class: class, Steps: 2}, roomyMethod(append(push(n), i, do(api.Return))))
			}
		}
	}
	// one too many, then as many as there are
	c := code(do(api.Push, 2000), do(api.NewInts), do(api.Return), do(api.Push, 1999), do(api.NewInts), do(api.Length), do(api.Print), do(api.Return))
	wantPairOfMe(t, "all", api.MaxHeap, api.Outcome{Kind: api.Done, Out: []int{1999}, Steps: 7}, roomyMethod(c, handlerTo(1, 2, 3, "Memory")))
	wantPairOfMe(t, "nothing is needed", 0, api.Outcome{Kind: api.Done, Steps: 2}, roomyMethod(code(do(api.Load), do(api.Return))))
}
