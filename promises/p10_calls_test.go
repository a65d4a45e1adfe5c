package promises

import (
	"slices"
	"strconv"
	"testing"

	"warden/api"
	"warden/warden"
)

func named(name string, m api.Method) api.Method {
	m.Name = name
	return m
}

// startMe: a careful run of Me's m, by files of these classes alone.
func startMe(t *testing.T, heap int, classes ...api.Class) *warden.Run {
	t.Helper()
	return startOf(t, wantAnswer(t, "classes", filesOf(t, classes...), false, api.OK, api.Place{}), "Me", "m", nil, heap)
}

func wantFrames(t *testing.T, what string, r *warden.Run, want ...api.Frame) {
	t.Helper()
	if f := r.State().Frames; !slices.EqualFunc(f, want, sameFrame) {
		t.Errorf("%s: frames %+v, want %+v", what, f, want)
	}
}

// TestP10Call: of the method that the object's class has; the frame that calls stays where it is until the other has returned.
func TestP10Call(t *testing.T) {
	p := named("p", plainMethod(2, 5, code(do(api.Load, 2), do(api.Return), do(api.Return))))
	p.Params, p.Ret = typeList(number, refTo("Me")), refTo("Me")
	q := named("p", plainMethod(1, 3, code(do(api.Nought), do(api.Return))))
	q.Params, q.Ret = p.Params, p.Ret
	c := code(do(api.Push, 1), by(api.New, "Sub"), do(api.Push, 2), do(api.Load), by(api.Call, "Me", "p"), do(api.Return))
	m := plainMethod(5, 2, c)
	for _, x := range []struct {
		callee api.Class
		frame  api.Frame
		ret    api.Word
	}{
		{classOf("Sub", "Me"), api.Frame{Class: "Me", Method: "p", Locals: words(addressWord(9), intWord(2), addressWord(8), noWord, noWord)}, addressWord(8)},
		{classOf("Sub", "Me", q), api.Frame{Class: "Sub", Method: "p", Locals: words(addressWord(9), intWord(2), addressWord(8))}, nullWord},
	} {
		r := startMe(t, 9, x.callee, classOf("Me", "Object", m, p))
		r.Step(4)
		caller := api.Frame{Class: "Me", Method: "m", At: 4, Stack: words(intWord(1), addressWord(9), intWord(2), addressWord(8)), Locals: words(addressWord(8), noWord)}
		wantFrames(t, "ahead", r, caller)
		r.Step(1)
		caller.Stack = words(intWord(1))
		wantFrames(t, "called", r, caller, x.frame)
		r.Step(1)
		x.frame.At, x.frame.Stack = 1, words(x.ret)
		wantFrames(t, "at work", r, caller, x.frame)
		r.Step(1)
		caller.At, caller.Stack = 5, words(intWord(1), x.ret)
		wantFrames(t, "returned", r, caller)
		r.Step(1)
		wantFrames(t, "done", r)
		wantOutcome(t, "done", r, api.Outcome{Kind: api.Done, Steps: 8})
	}
}

// TestP10CallOfNothing: of a method without Ret nothing is put on the stack, whatever was on its own.
func TestP10CallOfNothing(t *testing.T) {
	p := named("p", plainMethod(3, 1, code(do(api.Push, 5), do(api.Push, 6), do(api.Return))))
	r := startMe(t, 9, classOf("Me", "Object", plainMethod(1, 1, code(do(api.Load), by(api.Call, "Me", "p"), do(api.Push, 3), do(api.Print), do(api.Return))), p))
	r.Step(5)
	wantFrames(t, "returned", r, api.Frame{Class: "Me", Method: "m", At: 2, Locals: words(addressWord(8))})
	r.Step(9)
	wantOutcome(t, "done", r, api.Outcome{Kind: api.Done, Out: []int{3}, Steps: 8})
}

// TestP10CallRoom: there must be room for what the call puts, by the method that the instruction names.
func TestP10CallRoom(t *testing.T) {
	p := named("p", plainMethod(1, 1, code(do(api.Push, 5), do(api.Return))))
	p.Ret = number
	for stack, want := range []api.Outcome{{Kind: api.Stuck}, {Kind: api.Done, Steps: 5}} {
		r := startMe(t, 9, classOf("Me", "Object", plainMethod(stack, 1, code(do(api.Load), by(api.Call, "Me", "p"), do(api.Return))), p))
		r.Step(9)
		wantOutcome(t, "Stack "+strconv.Itoa(stack), r, want)
	}
}

// diver: a method that calls itself for ever.
func diver() api.Method {
	return plainMethod(1, 1, code(do(api.Load), by(api.Call, "Me", "m"), do(api.Return)))
}

func TestP10Depth(t *testing.T) {
	r := startMe(t, 0, classOf("Me", "Object", diver()))
	for n := 1; n <= 20; n++ {
		if f := r.State().Frames; len(f) != n {
			t.Errorf("%d frames, want %d", len(f), n)
		}
		r.Step(2)
	}
	wantOutcome(t, "deep", r, api.Outcome{Kind: api.Over, Class: "Depth", Steps: 40})
	m := diver()
	m.Handlers = append(m.Handlers, handlerTo(1, 2, 2, "Depth"))
	r = startMe(t, 0, classOf("Me", "Object", m))
	r.Step(39)
	ahead := r.State().Frames
	r.Step(1)
	f := r.State().Frames
	if len(f) != 20 || f[19].At != 2 || !slices.Equal(f[19].Stack, words(addressWord(7))) || !slices.EqualFunc(f[:19], ahead[:19], sameFrame) {
		t.Errorf("caught: %+v", f)
	}
	r.Step(99)
	wantOutcome(t, "caught", r, api.Outcome{Kind: api.Done, Steps: 60})
}

// TestP10DepthOrder: what does not fit is looked at ahead of null, and null ahead of the number of frames.
func TestP10DepthOrder(t *testing.T) {
	for op, want := range map[int]api.Outcome{
		api.Load:   {Kind: api.Over, Class: "Depth", Steps: 138},
		api.Nought: {Kind: api.Over, Class: "Nil", Steps: 138},
		api.Push:   {Kind: api.Stuck, Steps: 137},
	} {
		// p(n) calls p(n - 1); p(0) calls by what the Op puts
		p := named("p", plainMethod(3, 2, code(
			do(api.Load, 1), do(api.IfZero, 8), do(api.Load), do(api.Load, 1), do(api.Push, -1), do(api.Add), by(api.Call, "Me", "p"), do(api.Return),
			do(op), do(api.Push), by(api.Call, "Me", "p"), do(api.Return))))
		p.Params = typeList(number)
		program := wantAnswer(t, "deep", filesOf(t, classOf("Me", "Object", p)), false, api.OK, api.Place{})
		r := startOf(t, program, "Me", "p", []int{19}, 0)
		r.Step(19*7 + 2)
		if f := r.State().Frames; len(f) != 20 {
			t.Fatalf("%d frames", len(f))
		}
		r.Step(9)
		wantOutcome(t, "deep", r, want)
	}
}

// TestP10Returned: frames that are gone count no more.
func TestP10Returned(t *testing.T) {
	p := named("p", plainMethod(0, 1, code(do(api.Return))))
	c := append(push(1, 2), slices.Repeat(code(do(api.Load), by(api.Call, "Me", "p")), 50)...)
	r := startMe(t, 0, classOf("Me", "Object", plainMethod(3, 1, append(c, do(api.Return))), p))
	r.Step(999)
	wantOutcome(t, "many calls", r, api.Outcome{Kind: api.Done, Steps: len(c) + 51})
}
