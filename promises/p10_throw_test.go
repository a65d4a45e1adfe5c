package promises

import (
	"strings"
	"testing"

	"warden/api"
)

// throwers: code, of which the last instruction throws, by the class that it throws.
func throwers() map[string][]api.Ins {
	return map[string][]api.Ins{
		"Nil":    code(do(api.Nought), do(api.Push, 3), by(api.Put, "Pet", "n")),
		"Index":  code(do(api.Push), do(api.NewInts), do(api.Push, 0), do(api.Push, 1), do(api.PutInt)),
		"Size":   code(do(api.Push, -1), do(api.NewInts)),
		"Cast":   code(do(api.Load), by(api.To, "Own")),
		"Zero":   code(do(api.Push, 1), do(api.Push), do(api.Div)),
		"Memory": code(do(api.Push, 90), by(api.NewRefs, "Me")),
		"Own":    code(by(api.New, "Own"), do(api.Throw)),
	}
}

// TestP10Caught: behind the throw the frame is at the handler's At, with the thing alone on the stack, and else all is as it was.
func TestP10Caught(t *testing.T) {
	addresses := map[string]int{"Own": 9}
	for k, name := range strings.Fields("Nil Index Size Cast Zero Memory Depth") {
		addresses[name] = 1 + k
	}
	for class, c := range throwers() {
		at := len(c) + 4
		all := after(code(do(api.Push, 5), do(api.Store, 1), do(api.Push, 6), do(api.Push, 7)), c, code(do(api.Pop), do(api.Return)))
		r := runOf(t, 50, roomyMethod(all, handlerTo(at-1, at, at, class)))
		r.Step(at - 1)
		want := r.State()
		if n := r.Step(1); n != 1 {
			t.Errorf("%s: Step = %d", class, n)
		}
		want.Frames[0].At, want.Frames[0].Stack = at, words(addressWord(addresses[class]))
		wantRun(t, class, r, api.Outcome{Steps: at}, want)
		r.Step(9)
		wantOutcome(t, class, r, api.Outcome{Kind: api.Done, Steps: at + 2})
		want.Frames = nil
		r = runOf(t, 50, roomyMethod(all))
		r.Step(at)
		wantRun(t, class+", not caught", r, api.Outcome{Kind: api.Over, Class: class, Steps: at}, want)
	}
}

// TestP10FirstHandler: of those that have the place in their range and a class that the thing's class is below, the first.
func TestP10FirstHandler(t *testing.T) {
	c := append(code(do(api.Push), by(api.New, "Nil2"), do(api.Throw)), times(9, do(api.Return))...)
	h := handlerTo
	for _, x := range []struct {
		at       int // -1: not caught
		handlers []api.Handler
	}{
		{-1, nil}, {3, []api.Handler{h(0, 12, 3, "Throw")}}, {3, []api.Handler{h(2, 3, 3, "Nil")}}, {3, []api.Handler{h(2, 3, 3, "Nil2")}}, {2, []api.Handler{h(2, 3, 2, "Nil2")}}, {0, []api.Handler{h(2, 3, 0, "Nil2")}},
		{-1, []api.Handler{h(0, 2, 3, "Throw")}}, {-1, []api.Handler{h(3, 12, 3, "Throw")}}, {-1, []api.Handler{h(0, 12, 3, "Own")}}, {-1, []api.Handler{h(0, 12, 3, "Index"), h(0, 12, 4, "Own")}},
		{4, []api.Handler{h(0, 12, 3, "Own"), h(0, 2, 5, "Nil"), h(3, 9, 6, "Nil"), h(1, 3, 4, "Nil"), h(2, 3, 7, "Nil2")}},
		{5, []api.Handler{h(0, 12, 5, "Throw"), h(2, 3, 4, "Nil2")}}, {4, []api.Handler{h(2, 3, 4, "Nil2"), h(0, 12, 5, "Throw")}},
		// of what is not checked
		{3, []api.Handler{h(0, 12, 3, "Object")}}, {-1, []api.Handler{h(0, 12, 3, "Pet")}}, {-1, []api.Handler{h(2, 2, 3, "Throw")}}, {-1, []api.Handler{h(3, 2, 3, "Throw")}}, {3, []api.Handler{h(2, 65535, 3, "Throw")}}, {65535, []api.Handler{h(0, 9, 65535, "Throw")}}, {12, []api.Handler{h(0, 9, 12, "Throw")}},
	} {
		r := runOf(t, 9, roomyMethod(c, x.handlers...))
		r.Step(3)
		if x.at < 0 {
			wantOutcome(t, show(x), r, api.Outcome{Kind: api.Over, Class: "Nil2", Steps: 3})
			continue
		}
		wantFrames(t, show(x), r, api.Frame{Class: "Me", Method: "m", At: x.at, Stack: words(addressWord(9)), Locals: words(addressWord(8), noWord, noWord, noWord)})
		if x.at >= len(c) {
			r.Step(1)
			wantOutcome(t, show(x), r, api.Outcome{Kind: api.Stuck, Steps: 3})
		}
	}
}

// TestP10ThrowThroughFrames: each frame is asked at its own place, the last first, and all of it is one step.
func TestP10ThrowThroughFrames(t *testing.T) {
	throws := named("deep", plainMethod(2, 1, code(by(api.New, "Own"), do(api.Throw)), handlerTo(0, 1, 1, "Throw"), handlerTo(0, 2, 0, "Nil")))
	middle := named("middle", plainMethod(2, 1, code(do(api.Push), do(api.Load), by(api.Call, "Me", "deep"), do(api.Return))))
	outer := func(h ...api.Handler) api.Method {
		return plainMethod(3, 2, code(do(api.Push, 4), do(api.Load), by(api.Call, "Me", "middle"), do(api.Pop), do(api.Return), do(api.Return)), h...)
	}
	locals := words(addressWord(8), noWord)
	for _, x := range []struct {
		outer, middle []api.Handler
		want          []api.Frame
	}{
		{nil, nil, nil},
		{[]api.Handler{handlerTo(2, 3, 5, "Throw")}, nil, []api.Frame{{Class: "Me", Method: "m", At: 5, Stack: words(addressWord(9)), Locals: locals}}},
		{[]api.Handler{handlerTo(3, 6, 5, "Throw"), handlerTo(0, 2, 4, "Throw")}, nil, nil},
		{[]api.Handler{handlerTo(2, 3, 5, "Own")}, []api.Handler{handlerTo(2, 3, 3, "Own")}, []api.Frame{
			{Class: "Me", Method: "m", At: 2, Stack: words(intWord(4)), Locals: locals}, {Class: "Me", Method: "middle", At: 3, Stack: words(addressWord(9)), Locals: words(addressWord(8))}}},
		{[]api.Handler{handlerTo(2, 3, 5, "Own")}, []api.Handler{handlerTo(2, 3, 3, "Zero"), handlerTo(3, 4, 3, "Own"), handlerTo(0, 2, 3, "Own")}, []api.Frame{{Class: "Me", Method: "m", At: 5, Stack: words(addressWord(9)), Locals: locals}}},
	} {
		middle.Handlers = x.middle
		r := startMe(t, 9, classOf("Me", "Object", throws, outer(x.outer...), middle), classOf("Own", "Throw"))
		r.Step(7)
		if f := r.State().Frames; len(f) != 3 {
			t.Errorf("%d frames", len(f))
		}
		if n := r.Step(1); n != 1 {
			t.Errorf("Step = %d", n)
		}
		wantFrames(t, show(x), r, x.want...)
		want := api.Outcome{Steps: 8}
		if x.want == nil {
			want = api.Outcome{Kind: api.Over, Class: "Own", Steps: 8}
		}
		wantOutcome(t, show(x), r, want)
	}
}

// TestP10ThrownAgain: what throws of itself throws the same object each time.
func TestP10ThrownAgain(t *testing.T) {
	c := code(
		do(api.Push, 1), do(api.Push), do(api.Div), do(api.Store, 1),
		do(api.Push, 1), do(api.Push), do(api.Rem), do(api.Load, 1), do(api.IfSame, 10), do(api.Return),
		do(api.Push, 8), do(api.Print), do(api.Return))
	r := runOf(t, 0, roomyMethod(c, handlerTo(2, 3, 3, "Zero"), handlerTo(6, 7, 7, "Zero")))
	r.Step(99)
	wantOutcome(t, "thrown again", r, api.Outcome{Kind: api.Done, Out: []int{8}, Steps: 12})
}
