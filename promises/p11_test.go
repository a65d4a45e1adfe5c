package promises

import (
	"math"
	"math/rand"
	"testing"

	"warden/api"
	"warden/warden"
)

// loop: a method that never ends: each fifth step prints the next number, from 1 on.
func loop() api.Method {
	return roomyMethod(code(do(api.Push, 0), do(api.Push, 1), do(api.Add), do(api.Dup), do(api.Print), do(api.Jump, 1)))
}

func TestP11Steps(t *testing.T) {
	r := runOf(t, 0, loop())
	steps := 0
	for _, x := range []struct{ n, want int }{
		{0, 0}, {-1, 0}, {math.MinInt, 0}, {1, 1}, {2, 2}, {0, 0}, {4999, 4999}, {5000, 5000}, {5001, 5000}, {10000, 5000}, {math.MaxInt32, 5000}, {math.MaxInt, 5000}, {-5000, 0}, {7, 7},
	} {
		if n := r.Step(x.n); n != x.want {
			t.Errorf("Step(%d) = %d, want %d", x.n, n, x.want)
		}
		steps += x.want
		if o := r.Outcome(); o.Steps != steps || o.Kind != api.Going {
			t.Errorf("behind Step(%d): %d steps, %d, want %d", x.n, o.Steps, o.Kind, steps)
		}
	}
	out := r.Outcome().Out
	for k, n := range out {
		if n != k+1 {
			t.Fatalf("number %d of the output is %d", k, n)
		}
	}
	if len(out) != steps/5 {
		t.Errorf("behind %d steps %d numbers", steps, len(out))
	}
}

// TestP11StepsAtTheEnd: what ends, or is stuck, does no more steps than it can; what ended stays as it is.
func TestP11StepsAtTheEnd(t *testing.T) {
	null := do(api.Nought)
	for what, x := range map[string]struct {
		c    []api.Ins
		want api.Outcome
	}{
		"done":  {code(do(api.Push), do(api.Print), do(api.Return)), api.Outcome{Kind: api.Done, Out: []int{0}, Steps: 3}},
		"over":  {code(do(api.Push), do(api.Print), null, do(api.Throw)), api.Outcome{Kind: api.Over, Class: "Nil", Out: []int{0}, Steps: 4}},
		"stuck": {code(do(api.Push), do(api.Print), do(api.Pop)), api.Outcome{Kind: api.Stuck, Out: []int{0}, Steps: 2}},
	} {
		for _, n := range []int{1, 2, 3, 4, 5, 5000, math.MaxInt} {
			r := runOf(t, 0, roomyMethod(x.c))
			steps := 0
			for r.Outcome().Kind == api.Going {
				made := r.Step(n)
				if want := min(n, x.want.Steps-steps); made != want {
					t.Fatalf("%s: Step(%d) = %d, want %d", what, n, made, want)
				}
				steps += made
			}
			state := r.State()
			for _, more := range []int{n, 1, 0, -1} {
				if made := r.Step(more); made != 0 {
					t.Errorf("%s: another Step(%d) = %d", what, more, made)
				}
				wantRun(t, what, r, x.want, state)
			}
		}
	}
}

// TestP11StuckWhenAsked: what can do no more steps is Going until one is asked for.
func TestP11StuckWhenAsked(t *testing.T) {
	for _, c := range [][]api.Ins{nil, push(1, 2), code(do(api.Push), do(api.Push), do(api.Throw))} {
		able := min(len(c), 2)
		r := runOf(t, 0, roomyMethod(c))
		for _, n := range []int{0, able, 0, -3} {
			r.Step(n)
		}
		wantOutcome(t, "not asked", r, api.Outcome{Kind: api.Going, Steps: able})
		r.State()
		wantOutcome(t, "not asked", r, api.Outcome{Kind: api.Going, Steps: able})
		r.Step(1)
		wantOutcome(t, "asked", r, api.Outcome{Kind: api.Stuck, Steps: able})
	}
}

// TestP11StuckBehindMaxSteps: behind MaxSteps no step more is asked for, so that what would be stuck there is not so.
func TestP11StuckBehindMaxSteps(t *testing.T) {
	// 7 steps a round, and 3 behind the last round
	m := roomyMethod(code(do(api.Load, 1), do(api.IfZero, 7), do(api.Load, 1), do(api.Push, -1), do(api.Add), do(api.Store, 1), do(api.Jump), do(api.Jump, 8), do(api.Pop)))
	m.Params = typeList(number)
	p := wantAnswer(t, "rounds", withFamily(t, m), false, api.OK, api.Place{})
	for first, want := range map[int]api.Outcome{1: {Steps: 5001}, 2: {Kind: api.Stuck, Steps: 5001}} {
		r := startOf(t, p, "Me", "m", []int{714}, 0)
		r.Step(first)
		if n := r.Step(6000); n != 5001-first {
			t.Errorf("Step = %d behind %d", n, first)
		}
		wantOutcome(t, "5001 steps", r, want)
		r.Step(1)
		wantOutcome(t, "one more", r, api.Outcome{Kind: api.Stuck, Steps: 5001})
	}
}

func TestP11Outcomes(t *testing.T) {
	for _, x := range []struct {
		what string
		ret  api.Type
		c    []api.Ins
		want api.Outcome
	}{
		{"an Int", number, push(7), api.Outcome{Value: 7}}, {"an Int below 0", number, push(math.MinInt32), api.Outcome{Value: math.MinInt32}}, {"nought", number, push(0), api.Outcome{}},
		{"nothing", nothing, nil, api.Outcome{}}, {"nothing, with a value on the stack", nothing, push(7), api.Outcome{}}, {"nothing, with an object on the stack", nothing, code(do(api.Load)), api.Outcome{}},
		{"null", refTo("Me"), code(do(api.Nought)), api.Outcome{}}, {"null as an array", ints, code(do(api.Nought)), api.Outcome{}},
		{"an object", refTo("Me"), code(do(api.Load)), api.Outcome{Class: "Me"}}, {"an object of a class below", refTo("Pet"), code(by(api.New, "Pup")), api.Outcome{Class: "Pup"}}, {"an object as Object", refTo("Object"), code(by(api.New, "Own")), api.Outcome{Class: "Own"}}, {"what could be thrown", refTo("Throw"), code(by(api.New, "Zero")), api.Outcome{Class: "Zero"}},
		{"ints", ints, code(do(api.Push, 3), do(api.NewInts)), api.Outcome{}}, {"references", refsOf("Me"), code(do(api.Push, 3), by(api.NewRefs, "Me")), api.Outcome{}}, {"an array as Object", refTo("Object"), code(do(api.Push, 3), by(api.NewRefs, "Me")), api.Outcome{}},
	} {
		m := roomyMethod(after(push(5, 6), code(do(api.Print), do(api.Print)), x.c, code(do(api.Return))))
		m.Ret = x.ret
		for _, way := range []struct{ checked, fast bool }{{false, false}, {true, false}, {true, true}} {
			r := startAs(t, way.fast, wantAnswer(t, x.what, withFamily(t, m), way.checked, api.OK, api.Place{}), "Me", "m", nil, 99)
			r.Step(len(m.Code) - 1)
			wantOutcome(t, x.what+", ahead", r, api.Outcome{Out: []int{6, 5}, Steps: len(m.Code) - 1})
			heap := r.State().Heap
			r.Step(1)
			x.want.Kind, x.want.Out, x.want.Steps = api.Done, []int{6, 5}, len(m.Code)
			wantRun(t, x.what, r, x.want, api.State{Heap: heap})
		}
	}
}

// TestP11ValueOfTheFirst: what is told is the value of the first method, not what those that it called gave back.
func TestP11ValueOfTheFirst(t *testing.T) {
	p := named("p", plainMethod(1, 1, code(do(api.Push, 5), do(api.Return))))
	p.Ret = number
	r := startMe(t, 0, classOf("Me", "Object", roomyMethod(code(do(api.Load), by(api.Call, "Me", "p"), do(api.Return))), p))
	r.Step(4)
	wantOutcome(t, "given back", r, api.Outcome{Steps: 4})
	r.Step(1)
	wantOutcome(t, "nothing", r, api.Outcome{Kind: api.Done, Steps: 5})
}

// TestP11State: all that a state tells, of frames and of things.
func TestP11State(t *testing.T) {
	c := code(
		do(api.Push, -9), do(api.Store, 2), by(api.New, "Dog"), do(api.Store, 1),
		do(api.Load, 1), do(api.Load, 1), by(api.Put, "Dog", "d"), do(api.Load, 1), do(api.Push, 77), by(api.Put, "Pet", "n"),
		do(api.Push, 2), do(api.NewInts), do(api.Dup), do(api.Push, 1), do(api.Push, -5), do(api.PutInt),
		do(api.Push, 1), by(api.NewRefs, "Cat"), do(api.Nought), do(api.Load, 1), do(api.Push, 3), do(api.Load), by(api.Call, "Pet", "take"), do(api.Return))
	r := runOf(t, 50, roomyMethod(c))
	if n := r.Step(len(c) - 1); n != len(c)-1 {
		t.Fatalf("Step = %d", n)
	}
	object := words(addressWord(8), addressWord(9), intWord(-9), noWord)
	wantRun(t, "a state", r, api.Outcome{Steps: len(c) - 1}, api.State{
		Frames: []api.Frame{
			{Class: "Me", Method: "m", At: len(c) - 2, Stack: words(addressWord(10), addressWord(11), nullWord), Locals: object},
			{Class: "Pet", Method: "take", Locals: words(addressWord(9), intWord(3), addressWord(8))},
		},
		Heap: append(firstHeap(), me8(), objectOf("Dog", intWord(77), nullWord, nullWord, nullWord, addressWord(9)),
			api.Thing{Kind: api.Ints, Words: words(intWord(0), intWord(-5))}, api.Thing{Kind: api.Refs, Class: "Cat", Words: words(nullWord)}),
	})
}

// TestP11Divided: it is the same however the steps are divided.
func TestP11Divided(t *testing.T) {
	for seed := range int64(150) {
		classes, _ := town(seed)
		p := wantAnswer(t, "a town", filesOf(t, classes...), false, api.OK, api.Place{})
		args := make([]int, paramsOf(classes, "m"))
		whole := startOf(t, p, "Me", "m", args, 60)
		whole.Step(300)
		for _, most := range []int{1, 2, 9, 200} {
			r, left := startOf(t, p, "Me", "m", args, 60), 300
			random := rand.New(rand.NewSource(seed))
			for left > 0 {
				n := min(left, random.Intn(most+1))
				r.Step(n)
				left -= n
			}
			wantRun(t, "divided", r, whole.Outcome(), whole.State())
		}
	}
}

// paramsOf: how many params Me's method has.
func paramsOf(classes []api.Class, method string) int {
	m, _ := worldOf(classes).method("Me", method)
	return len(m.Params)
}

// TestP11Asked: what is told changes nothing.
func TestP11Asked(t *testing.T) {
	asked, plain := runOf(t, 9, loop()), runOf(t, 9, loop())
	for range 50 {
		tellTwice(t, asked)
		asked.Step(3)
		plain.Step(3)
	}
	wantRun(t, "asked", asked, plain.Outcome(), plain.State())
}

func tellTwice(t *testing.T, r *warden.Run) {
	t.Helper()
	wantRun(t, "told twice", r, r.Outcome(), r.State())
}
