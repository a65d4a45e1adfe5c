package promises

import (
	"math"
	"strconv"
	"strings"
	"testing"

	"warden/api"
	"warden/warden"
)

// pair: a careful run and a fast one of the same.
type pair struct{ careful, fast *warden.Run }

func pairOf(t *testing.T, p *warden.Program, args []int, heap int) pair {
	t.Helper()
	return pair{startOf(t, p, "Me", "m", args, heap), startAs(t, true, p, "Me", "m", args, heap)}
}

// wantAlike asks that n more steps of both are as many, and that both are told alike then, but for the tags.
func (r pair) wantAlike(t *testing.T, what string, n int) {
	t.Helper()
	careful, fast := r.careful.Step(n), r.fast.Step(n)
	if careful != fast {
		t.Errorf("%s: Step(%d) = %d, fast %d", what, n, careful, fast)
	}
	o := r.careful.Outcome()
	wantRun(t, what+", fast, behind "+strconv.Itoa(o.Steps)+" steps", r.fast, o, bare(r.careful.State()))
}

// wantPair asks that both are told alike from the first step to the last, and end so.
func wantPair(t *testing.T, what string, p *warden.Program, args []int, heap int, want api.Outcome) {
	t.Helper()
	r := pairOf(t, p, args, heap)
	r.wantAlike(t, what, 0)
	for range want.Steps + 1 {
		r.wantAlike(t, what, 1)
	}
	wantOutcome(t, what, r.careful, want)
	wantOutcome(t, what+", fast", r.fast, want)
}

// wantPairOf does so with files of these classes alone.
func wantPairOf(t *testing.T, what string, heap int, want api.Outcome, classes ...api.Class) {
	t.Helper()
	p := wantAnswer(t, what, filesOf(t, classes...), true, api.OK, api.Place{})
	if p == nil {
		t.FailNow()
	}
	wantPair(t, what, p, nil, heap, want)
}

// wantPairOfMe does so with the family, and Me with these methods.
func wantPairOfMe(t *testing.T, what string, heap int, want api.Outcome, methods ...api.Method) {
	t.Helper()
	wantPairOf(t, what, heap, want, append(family(), classOf("Me", "Pet", methods...))...)
}

// TestP12Random: both runs of programs of all kinds are told alike, and as the model has it.
func TestP12Random(t *testing.T) {
	kinds, thrown, all, deepest := map[int]int{}, map[string]int{}, 0, 0
	for seed := range int64(1500) {
		classes, a := village(seed)
		p := wantAnswer(t, "a village", filesOf(t, classes...), true, api.OK, api.Place{})
		args, heap := make([]int, paramsOf(classes, "m")), []int{0, 30, 200, 2000, 2000}[seed%5]
		for k := range args {
			args[k] = a.Intn(9) - 3
		}
		both, model := pairOf(t, p, args, heap), a.w.start("Me", "m", args, heap)
		for what := "seed " + strconv.Itoa(int(seed)); model.outcome.Steps < 400 && model.outcome.Kind == api.Going; {
			n := 1 + a.Intn(5)
			model.step(n)
			both.wantAlike(t, what, n)
			wantRun(t, what, both.careful, model.outcome, model.state())
			deepest = max(deepest, len(model.frames))
			if t.Failed() {
				t.FailNow()
			}
		}
		kinds[model.outcome.Kind]++
		for class, n := range model.thrown {
			thrown[class] += n
			all += n
		}
	}
	for _, kind := range []int{api.Done, api.Over} {
		if kinds[kind] < 200 {
			t.Errorf("of the runs but %d end as %d", kinds[kind], kind)
		}
	}
	for _, class := range builtIns()[2:] {
		if thrown[class] < 10 {
			t.Errorf("but %d of the class %s were thrown", thrown[class], class)
		}
	}
	if caught := all - kinds[api.Over]; caught < 500 || deepest != api.MaxFrames {
		t.Errorf("but %d were caught, at most %d frames", caught, deepest)
	}
}

// TestP12Words: no word has a tag: V is the int, 0 of null and of none, or the address, on the stack, in the locals, in fields and in arrays.
func TestP12Words(t *testing.T) {
	c := code(
		do(api.Push, -9), do(api.Store, 2), by(api.New, "Dog"), do(api.Store, 1),
		do(api.Load, 1), do(api.Load, 1), by(api.Put, "Dog", "d"), do(api.Load, 1), do(api.Push, math.MinInt32), by(api.Put, "Pet", "n"),
		do(api.Push, 2), do(api.NewInts), do(api.Dup), do(api.Push, 1), do(api.Push, -5), do(api.PutInt),
		do(api.Push, 2), by(api.NewRefs, "Dog"), do(api.Dup), do(api.Push, 1), do(api.Load, 1), do(api.PutRef),
		do(api.Nought), do(api.Load, 1), do(api.Push, 3), do(api.Load), by(api.Call, "Pet", "take"), do(api.Return))
	p := wantAnswer(t, "words", withFamily(t, roomyMethod(c)), true, api.OK, api.Place{})
	r := startAs(t, true, p, "Me", "m", nil, 50)
	if n := r.Step(len(c) - 1); n != len(c)-1 {
		t.Fatalf("Step = %d", n)
	}
	v := func(list ...int) []api.Word {
		var w []api.Word
		for _, n := range list {
			w = append(w, api.Word{V: n})
		}
		return w
	}
	wantRun(t, "words", r, api.Outcome{Steps: len(c) - 1}, api.State{
		Frames: []api.Frame{
			{Class: "Me", Method: "m", At: len(c) - 2, Stack: v(10, 11, 0), Locals: v(8, 9, -9, 0)},
			{Class: "Pet", Method: "take", Locals: v(9, 3, 8)},
		},
		Heap: append(firstHeap(), objectOf("Me", v(0, 0, 0, 0)...), objectOf("Dog", v(math.MinInt32, 0, 0, 0, 9)...),
			api.Thing{Kind: api.Ints, Words: v(0, -5)}, api.Thing{Kind: api.Refs, Class: "Dog", Words: v(0, 9)}),
	})
}

// TestP12CaughtWord: the thing that is caught has no tag either.
func TestP12CaughtWord(t *testing.T) {
	m := roomyMethod(code(do(api.Push, 3), do(api.Store, 1), do(api.Nought), do(api.Throw), do(api.Return)), handlerTo(3, 4, 4, "Nil"))
	r := startAs(t, true, wantAnswer(t, "caught", withFamily(t, m), true, api.OK, api.Place{}), "Me", "m", nil, 0)
	r.Step(4)
	wantFrames(t, "caught", r, api.Frame{Class: "Me", Method: "m", At: 4, Stack: []api.Word{{V: 1}}, Locals: []api.Word{{V: 8}, {V: 3}, {}, {}}})
}

func TestP12Reckon(t *testing.T) {
	edges := []int{0, 1, -1, 2, 3, -7, 46341, -46341, 65536, 1 << 30, math.MaxInt32, math.MinInt32, math.MinInt32 + 1}
	for _, op := range []int{api.Add, api.Sub, api.Mul, api.Div, api.Rem} {
		m := plainMethod(2, 3, code(do(api.Load, 1), do(api.Load, 2), do(op), do(api.Return)))
		m.Params, m.Ret = typeList(number, number), number
		p := wantAnswer(t, "reckon", withFamily(t, m), true, api.OK, api.Place{})
		for _, a := range edges {
			for _, b := range edges {
				want := api.Outcome{Kind: api.Done, Steps: 4}
				switch {
				case b == 0 && op >= api.Div:
					want = api.Outcome{Kind: api.Over, Class: "Zero", Steps: 3}
				case op == api.Div:
					want.Value = int(int32(a / b))
				case op == api.Rem:
					want.Value = a % b
				default:
					want.Value = int(int32([]int{a + b, a - b, a * b}[op-api.Add]))
				}
				wantPair(t, show([]int{op, a, b}), p, []int{a, b}, 0, want)
			}
		}
	}
}

// TestP12Jumps: by the numbers, and by the addresses.
func TestP12Jumps(t *testing.T) {
	for _, x := range []struct {
		c      []api.Ins
		isMade bool
	}{
		{code(do(api.Push, 0), do(api.IfZero)), true}, {code(do(api.Push, -1), do(api.IfZero)), false}, {code(do(api.Push, math.MinInt32), do(api.IfZero)), false},
		{code(do(api.Push, -1), do(api.Push, 0), do(api.IfLess)), true}, {code(do(api.Push, 0), do(api.Push, 0), do(api.IfLess)), false}, {code(do(api.Push, math.MaxInt32), do(api.Push, math.MinInt32), do(api.IfLess)), false}, {code(do(api.Push, math.MinInt32), do(api.Push, math.MaxInt32), do(api.IfLess)), true},
		{code(do(api.Nought), do(api.Nought), do(api.IfSame)), true}, {code(do(api.Load), do(api.Load), do(api.IfSame)), true}, {code(do(api.Load), do(api.Nought), do(api.IfSame)), false}, {code(do(api.Nought), do(api.Load), do(api.IfSame)), false}, {code(by(api.New, "Pet"), by(api.New, "Pet"), do(api.IfSame)), false},
		{code(do(api.Push), do(api.NewInts), do(api.Dup), do(api.IfSame)), true}, {code(do(api.Push), do(api.NewInts), do(api.Push), do(api.NewInts), do(api.IfSame)), false},
		{code(do(api.Jump)), true},
	} {
		at := len(x.c)
		x.c[at-1].A = at + 3
		m := roomyMethod(append(x.c, do(api.Push, 7), do(api.Print), do(api.Return), do(api.Return)))
		want := api.Outcome{Kind: api.Done, Out: []int{7}, Steps: at + 3}
		if x.isMade {
			want = api.Outcome{Kind: api.Done, Steps: at + 1}
		}
		wantPairOfMe(t, show(x.c), 99, want, m)
	}
}

func TestP12ToAndIs(t *testing.T) {
	pup, null := code(by(api.New, "Pup")), code(do(api.Nought))
	array, pets := code(do(api.Push), do(api.NewInts)), code(do(api.Push, 2), by(api.NewRefs, "Pet"))
	for _, x := range []struct {
		value  []api.Ins
		class  string
		is, to bool
	}{
		{pup, "Pup", true, true}, {pup, "Dog", true, true}, {pup, "Object", true, true}, {pup, "Cat", false, false}, {pup, "Throw", false, false}, {code(do(api.Load)), "Dog", false, false}, {code(by(api.New, "Nil2")), "Nil", true, true},
		{null, "Pup", false, true}, {null, "Object", false, true}, {null, "Nil", false, true},
		{array, "Object", true, true}, {array, "Pet", false, false}, {pets, "Object", true, true}, {pets, "Pet", false, false},
	} {
		n := len(x.value)
		out := []int{map[bool]int{true: 1, false: 0}[x.is]}
		wantPairOfMe(t, show(x), 99, api.Outcome{Kind: api.Done, Out: out, Steps: n + 3}, roomyMethod(after(x.value, code(by(api.Is, x.class), do(api.Print), do(api.Return)))))
		want := api.Outcome{Kind: api.Done, Steps: n + 2}
		if !x.to {
			want = api.Outcome{Kind: api.Over, Class: "Cast", Steps: n + 1}
		}
		wantPairOfMe(t, show(x), 99, want, roomyMethod(after(x.value, code(by(api.To, x.class), do(api.Return)))))
	}
}

// TestP12Outcomes: a value is told by what the method tells, an object by its class, an array not at all.
func TestP12Outcomes(t *testing.T) {
	null, pets := code(do(api.Nought)), code(do(api.Push, 3), by(api.NewRefs, "Me"))
	for _, x := range []struct {
		ret  api.Type
		c    []api.Ins
		want api.Outcome
	}{
		{number, push(0), api.Outcome{}}, {number, push(8), api.Outcome{Value: 8}}, {number, push(-1), api.Outcome{Value: -1}}, {number, push(2000), api.Outcome{Value: 2000}}, {nothing, push(8), api.Outcome{}}, {nothing, code(do(api.Load)), api.Outcome{}},
		{refTo("Me"), null, api.Outcome{}}, {refTo("Object"), null, api.Outcome{}}, {ints, null, api.Outcome{}}, {refsOf("Me"), null, api.Outcome{}},
		{refTo("Me"), code(do(api.Load)), api.Outcome{Class: "Me"}}, {refTo("Object"), code(by(api.New, "Pup")), api.Outcome{Class: "Pup"}}, {refTo("Throw"), code(by(api.New, "Zero")), api.Outcome{Class: "Zero"}},
		{ints, code(do(api.Push, 3), do(api.NewInts)), api.Outcome{}}, {refsOf("Me"), pets, api.Outcome{}}, {refTo("Object"), pets, api.Outcome{}}, {refTo("Object"), code(do(api.Push), do(api.NewInts)), api.Outcome{}},
	} {
		m := roomyMethod(append(x.c, do(api.Return)))
		m.Ret = x.ret
		x.want.Kind, x.want.Steps = api.Done, len(m.Code)
		wantPairOfMe(t, show(x), 99, x.want, m)
	}
}

func TestP12Steps(t *testing.T) {
	both := pairOf(t, wantAnswer(t, "a loop", withFamily(t, loop()), true, api.OK, api.Place{}), nil, 0)
	steps := 0
	for _, x := range []struct{ n, want int }{
		{0, 0}, {-1, 0}, {math.MinInt, 0}, {1, 1}, {3, 3}, {4999, 4999}, {5000, 5000}, {5001, 5000}, {math.MaxInt32, 5000}, {math.MaxInt, 5000}, {-5000, 0}, {0, 0}, {7, 7},
	} {
		both.wantAlike(t, "a loop", x.n)
		steps += x.want
		if n := both.fast.Outcome().Steps; n != steps {
			t.Errorf("behind Step(%d): %d steps, want %d", x.n, n, steps)
		}
	}
	if o := both.fast.Outcome(); o.Kind != api.Going || len(o.Out) != steps/5 {
		t.Errorf("behind %d steps: %d, %d numbers", steps, o.Kind, len(o.Out))
	}
}

// TestP12Ended: what ended stays as it is, whatever is asked of it.
func TestP12Ended(t *testing.T) {
	for what, c := range map[string][]api.Ins{
		"done": code(do(api.Push), do(api.Print), do(api.Return)), "over": code(do(api.Push), do(api.Print), do(api.Nought), do(api.Throw)),
	} {
		both := pairOf(t, wantAnswer(t, what, withFamily(t, roomyMethod(c)), true, api.OK, api.Place{}), nil, 0)
		both.wantAlike(t, what, len(c)-1)
		for _, n := range []int{0, -1, math.MaxInt, 1, 0, 5000, -1, math.MaxInt} {
			both.wantAlike(t, what, n)
		}
		if o := both.fast.Outcome(); o.Steps != len(c) || o.Kind == api.Going {
			t.Errorf("%s: %+v", what, o)
		}
	}
}

// TestP12Unchecked: of what was loaded without checked there is no fast run, also where a check would find nothing.
func TestP12Unchecked(t *testing.T) {
	p := wantAnswer(t, "unchecked", filesOf(t, example()), false, api.OK, api.Place{})
	for _, x := range []struct {
		names string
		args  []int
		heap  int
	}{
		{"A m", nil, 0}, {"B m", nil, 0}, {"A n", []int{1}, 0}, {"Object m", nil, -1}, {"A m", []int{1}, 0}, {"A m", nil, 2001},
	} {
		class, method, _ := strings.Cut(x.names, " ")
		if r, e := p.Start(true, class, method, x.args, x.heap); r != nil || e != api.ErrFast {
			t.Errorf("Start(fast, %+v) = run: %v, %d", x, r != nil, e)
		}
	}
}
