package promises

import (
	"math"
	"math/rand"
	"strconv"
	"testing"

	"warden/api"
	"warden/warden"
)

// hamlet: the family, and Me and Sub with methods like those of a town, but that each was made anew until it had no error.
func hamlet(seed int64) ([]api.Class, *maker) {
	return builtTown(seed, func(r *maker) {
		head := r.m
		for {
			r.make()
			if e, _, _ := r.w.check(r.class, r.m); e == api.OK {
				return
			}
			r.begin(r.class, head)
		}
	})
}

// accepted: programs without errors: of villages, or, now and then, of hamlets.
func accepted(t *testing.T, seed int64) (*warden.Program, world, []int) {
	t.Helper()
	var classes []api.Class
	if seed%8 == 0 {
		classes, _ = hamlet(seed)
	} else {
		classes, _ = village(seed)
	}
	args := make([]int, paramsOf(classes, "m"))
	for k := range args {
		args[k] = int(seed) - 5*k
	}
	return wantAnswer(t, "accepted", filesOf(t, classes...), true, api.OK, api.Place{}), worldOf(classes), args
}

// wantTyped asks that in each frame the types of the words are under those of Typing at its place, behind what a Call has taken.
func wantTyped(t *testing.T, what string, p *warden.Program, w world, s api.State) {
	t.Helper()
	heap := modelRun{heap: s.Heap}
	for k, f := range s.Frames {
		typing, e := p.Typing(f.Class, f.Method)
		if e != api.OK || f.At >= len(typing) || !typing[f.At].Reached {
			t.Fatalf("%s: frame %d: Typing = %d, %d of %d frames", what, k, e, f.At, len(typing))
		}
		stack, vars := typing[f.At].Types, typing[f.At].Vars
		if k < len(s.Frames)-1 {
			m, _ := w.method(f.Class, f.Method)
			takes, _ := w.size(m, m.Code[f.At])
			stack = stack[:len(stack)-takes]
		}
		if !w.areUnder(heap.typesOf(f.Stack), stack) || !w.areUnder(heap.typesOf(f.Locals), vars) {
			t.Errorf("%s: frame %d of %d: %+v, typed %v, %v", what, k, len(s.Frames), f, stack, vars)
		}
	}
}

func (w world) areUnder(list, others []api.Type) bool {
	if len(list) != len(others) {
		return false
	}
	for k := range list {
		if !w.under(list[k], others[k]) {
			return false
		}
	}
	return true
}

// TestP13Typed: in careful runs of what was accepted, ahead of each step.
func TestP13Typed(t *testing.T) {
	framesSeen := 0
	for seed := range int64(600) {
		p, w, args := accepted(t, seed)
		r := startOf(t, p, "Me", "m", args, []int{2000, 100}[seed%2])
		for n := 0; n < 300 && r.Outcome().Kind == api.Going; n++ {
			s := r.State()
			wantTyped(t, "seed "+strconv.Itoa(int(seed)), p, w, s)
			framesSeen = max(framesSeen, len(s.Frames))
			r.Step(1)
			if t.Failed() {
				t.FailNow()
			}
		}
	}
	if framesSeen != api.MaxFrames {
		t.Errorf("at most %d frames", framesSeen)
	}
}

// TestP13TypedAtACall: what the frame that called has on its stack is what the Call has left there, until the other one has returned.
func TestP13TypedAtACall(t *testing.T) {
	take := named("take2", plainMethod(2, 4, code(do(api.Load, 2), do(api.Return))))
	take.Params, take.Ret = typeList(number, refTo("Pet")), refTo("Pet")
	m := roomyMethod(code(do(api.Push, 1), do(api.Nought), by(api.New, "Me"), do(api.Push, 2), by(api.New, "Pup"), by(api.Call, "Me", "take2"), do(api.Store, 1), do(api.Pop), do(api.Pop), do(api.Return)))
	classes := append(family(), classOf("Me", "Pet", m, take))
	p, w := wantAnswer(t, "a call", filesOf(t, classes...), true, api.OK, api.Place{}), worldOf(classes)
	r := startOf(t, p, "Me", "m", nil, 99)
	for n := range 12 {
		s := r.State()
		wantTyped(t, "a call", p, w, s)
		if isCalled := n == 6 || n == 7; isCalled && (len(s.Frames) != 2 || s.Frames[0].At != 5 || len(s.Frames[0].Stack) != 2) {
			t.Errorf("behind %d steps: %+v", n, s.Frames)
		}
		r.Step(1)
	}
	wantOutcome(t, "a call", r, api.Outcome{Kind: api.Done, Steps: 12})
}

// TestP13NeverStuck: neither a careful run nor a fast one of what was accepted.
func TestP13NeverStuck(t *testing.T) {
	kinds := map[int]int{}
	for seed := range int64(1200) {
		p, _, args := accepted(t, seed)
		for _, fast := range bothWays {
			r := startAs(t, fast, p, "Me", "m", args, int(seed)%300)
			for range 3 {
				r.Step(5000)
			}
			o := r.Outcome()
			kinds[o.Kind]++
			if o.Kind == api.Stuck || o.Kind == api.Going && o.Steps != 15000 {
				t.Errorf("seed %d, fast: %v: %+v", seed, fast, o)
			}
		}
	}
	for _, kind := range []int{api.Going, api.Done, api.Over} {
		if kinds[kind] < 20 {
			t.Errorf("of the runs but %d end as %d", kinds[kind], kind)
		}
	}
}

// TestP13ChangedFiles: each byte of a file as any other: what is accepted then, whatever it does, does the same both ways, and is not stuck.
func TestP13ChangedFiles(t *testing.T) {
	c := code(do(api.Push, 2), do(api.NewInts), do(api.Store, 2), do(api.Load), by(api.Call, "Pet", "num"), do(api.Pop), do(api.Load, 1), do(api.IfZero, 11), by(api.New, "Me"), by(api.Get, "Me", "n"), do(api.Print), do(api.Load, 2), do(api.Push), do(api.Push, 5), do(api.PutInt), do(api.Nought), do(api.Throw), do(api.Pop), do(api.Push, 1), do(api.Return))
	m := plainMethod(3, 3, c, handlerTo(4, 5, 17, "Nil"), handlerTo(0, 17, 17, "Throw"))
	m.Params, m.Ret = typeList(number), number
	files := withFamily(t, m)
	file, all := files[mine], 0
	for at := range file {
		for b := range 256 {
			files[mine] = changed(file, at, b)
			p, e, _ := warden.Load(files, true)
			if e != api.OK {
				continue
			}
			all++
			class, _, _ := warden.Decode(files[mine])
			if _, e := p.Start(true, class.Name, "m", []int{b}, 20); e != api.OK {
				continue
			}
			both := pair{startOf(t, p, class.Name, "m", []int{b}, 20), startAs(t, true, p, class.Name, "m", []int{b}, 20)}
			for range 30 {
				both.wantAlike(t, show(files[mine]), 1)
			}
			if o := both.fast.Outcome(); o.Kind == api.Stuck {
				t.Errorf("%q: %+v", files[mine], o)
			}
		}
	}
	if all < 1000 {
		t.Errorf("but %d were accepted", all)
	}
}

// TestP13Divided: it is the same however the steps are divided, also by what asks for none, or for more than are made at once.
func TestP13Divided(t *testing.T) {
	for seed := range int64(150) {
		p, _, args := accepted(t, seed)
		for _, fast := range bothWays {
			whole := startAs(t, fast, p, "Me", "m", args, 500)
			whole.Step(240)
			for _, division := range [][]int{{120, 120}, {1, 239}, {239, 1}, {0, 7, -1, 233, math.MinInt, 0}, {60, 0, 60, -5000, 60, 60}} {
				r := startAs(t, fast, p, "Me", "m", args, 500)
				for _, n := range division {
					r.Step(n)
				}
				wantRun(t, "divided", r, whole.Outcome(), whole.State())
			}
			r, random := startAs(t, fast, p, "Me", "m", args, 500), rand.New(rand.NewSource(seed))
			for left := 240; left > 0; {
				n := min(left, random.Intn(12)-2)
				r.Step(n)
				left -= max(0, n)
				r.State()
				r.Outcome()
			}
			wantRun(t, "divided at random", r, whole.Outcome(), whole.State())
		}
		if t.Failed() {
			t.FailNow()
		}
	}
}

// TestP13DividedAboveMaxSteps: of each Step at most MaxSteps count as asked for.
func TestP13DividedAboveMaxSteps(t *testing.T) {
	p := wantAnswer(t, "a loop", withFamily(t, loop()), true, api.OK, api.Place{})
	for _, fast := range bothWays {
		want := startAs(t, fast, p, "Me", "m", nil, 0)
		for range 12000 {
			want.Step(1)
		}
		for _, division := range [][]int{{5000, 5000, 2000}, {math.MaxInt, 7000, 2000}, {5001, 0, 2000, -1, 5000}, {4000, 4000, 4000}} {
			r := startAs(t, fast, p, "Me", "m", nil, 0)
			for _, n := range division {
				r.Step(n)
			}
			wantRun(t, "a loop", r, want.Outcome(), want.State())
		}
	}
}

// TestP13Alone: what a run does hangs on the program, the entry, the args and heap: not on what was loaded, run or asked for else.
func TestP13Alone(t *testing.T) {
	for seed := range int64(60) {
		p, _, args := accepted(t, seed)
		again, _, _ := accepted(t, seed)
		other, _, others := accepted(t, seed+1)
		for _, fast := range bothWays {
			want := startAs(t, fast, p, "Me", "m", args, 300)
			want.Step(100)
			first, second := startAs(t, fast, again, "Me", "m", args, 300), startAs(t, fast, p, "Me", "m", args, 300)
			beside := startAs(t, !fast, other, "Me", "m", others, 300)
			for range 50 {
				first.Step(1)
				beside.Step(3)
				second.Step(2)
				p.Typing("Me", "m")
				first.Step(1)
			}
			wantRun(t, "loaded again", first, want.Outcome(), want.State())
			wantRun(t, "beside others", second, want.Outcome(), want.State())
		}
	}
}
