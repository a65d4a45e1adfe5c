package promises

import (
	"slices"
	"strconv"
	"testing"

	"warden/api"
	"warden/warden"
)

// town: the family, and classes with methods that are made: Me, and Sub below it, which has another p.
func town(seed int64) ([]api.Class, *maker) { return builtTown(seed, (*maker).make) }

// builtTown: a town of which build makes each method.
func builtTown(seed int64, build func(*maker)) ([]api.Class, *maker) {
	r := bareMaker(seed)
	r.nameList = append(r.nameList, "Me", "Sub", "Sub")
	r.favored = code(by(api.Call, "Me", "m"), by(api.Call, "Me", "p"), by(api.Call, "Me", "q"), by(api.Call, "Sub", "p"), by(api.Call, "Sub", "s"),
		do(api.Load), by(api.New, "Sub"), do(api.NewInts), by(api.NewRefs, "Pet"), do(api.GetInt), do(api.PutInt), do(api.GetRef), do(api.PutRef), do(api.Rem))
	entry, p, q, s := r.head("m", func() api.Type { return number }), r.head("p", r.anyType), r.head("q", r.anyType), r.head("s", r.anyType)
	other := r.head("p", r.anyType)
	other.Params, other.Ret, other.Locals = p.Params, p.Ret, 1+len(p.Params)+r.Intn(3)
	me := withFields(classOf("Me", "Pet", p, entry, q), field("k", number))
	sub := withFields(classOf("Sub", "Me", s, other), field("z", ints))
	r.w = worldOf(append(family(), me, sub))
	for _, c := range []api.Class{me, sub} {
		for k, m := range c.Methods {
			r.begin(c.Name, m)
			build(r)
			c.Methods[k] = r.m
		}
	}
	classes := append(family(), sub, me)
	r.w = worldOf(classes)
	return classes, r
}

// TestP10Random: what a run does is what the model does, step by step, of programs of all kinds.
func TestP10Random(t *testing.T) {
	kinds, thrown, deepest := map[int]int{}, map[string]int{}, 0
	for seed := range int64(4000) {
		classes, r := town(seed)
		files := filesOf(t, classes...)
		p, e, _ := warden.Load(files, true)
		isChecked := e == api.OK
		if !isChecked {
			p, e, _ = warden.Load(files, false)
		}
		if e != api.OK {
			t.Fatalf("seed %d: Load = %d", seed, e)
		}
		class := []string{"Me", "Sub"}[r.Intn(2)]
		m, _ := r.w.method(class, "m")
		args, heap := make([]int, len(m.Params)), r.Intn(100)
		for k := range args {
			args[k] = r.anyNumber()
		}
		run, model := startOf(t, p, class, "m", args, heap), r.w.start(class, "m", args, heap)
		for model.outcome.Steps < 400 && model.outcome.Kind == api.Going {
			wantSteps(t, "seed "+strconv.Itoa(int(seed)), run, model, 1+r.Intn(5))
			deepest = max(deepest, len(model.frames))
			if t.Failed() {
				t.FailNow()
			}
		}
		kinds[model.outcome.Kind]++
		if isChecked && model.outcome.Kind == api.Stuck {
			t.Errorf("seed %d: what was checked is stuck", seed)
		}
		for class, n := range model.thrown {
			thrown[class] += n
		}
	}
	for _, kind := range []int{api.Going, api.Done, api.Over, api.Stuck} {
		if kinds[kind] < 100 {
			t.Errorf("of the runs but %d end as %d", kinds[kind], kind)
		}
	}
	for _, class := range append(builtIns()[2:], "Own", "Nil2") {
		if thrown[class] < 10 {
			t.Errorf("but %d of the class %s were thrown", thrown[class], class)
		}
	}
	if deepest != api.MaxFrames {
		t.Errorf("at most %d frames", deepest)
	}
}

// startOf: a careful run.
func startOf(t *testing.T, p *warden.Program, class, method string, args []int, heap int) *warden.Run {
	t.Helper()
	return startAs(t, false, p, class, method, args, heap)
}

// startAs: a fast run, or a careful one.
func startAs(t *testing.T, fast bool, p *warden.Program, class, method string, args []int, heap int) *warden.Run {
	t.Helper()
	given := slices.Clone(args)
	run, e := p.Start(fast, class, method, given, heap)
	if run == nil || e != api.OK {
		t.Fatalf("Start(%v, %s, %s, %v, %d) = %v, %d", fast, class, method, args, heap, run != nil, e)
	}
	return run
}

// bothWays: whether a run is fast.
var bothWays = []bool{false, true}

// placeFor: a program made from the seed, with the args of Me's m: a town, unchecked, or, for fast runs, a village.
func placeFor(t *testing.T, fast bool, seed int64) (*warden.Program, world, []int) {
	t.Helper()
	classes, _ := town(seed)
	if fast {
		classes, _ = village(seed)
	}
	p := wantAnswer(t, "a place", filesOf(t, classes...), fast, api.OK, api.Place{})
	return p, worldOf(classes), make([]int, paramsOf(classes, "m"))
}

// wantSteps asks that n more steps of the run, and what they make, are those of the model.
func wantSteps(t *testing.T, what string, run *warden.Run, model *modelRun, n int) {
	t.Helper()
	got, want := run.Step(n), model.step(n)
	what += ", behind " + strconv.Itoa(model.outcome.Steps) + " steps"
	if got != want {
		t.Errorf("%s: Step(%d) = %d, want %d", what, n, got, want)
	}
	wantRun(t, what, run, model.outcome, model.state())
}

func wantRun(t *testing.T, what string, run *warden.Run, outcome api.Outcome, state api.State) {
	t.Helper()
	wantOutcome(t, what, run, outcome)
	if s := run.State(); !sameState(s, state) {
		t.Errorf("%s: State = %+v, want %+v", what, s, state)
	}
}

func wantOutcome(t *testing.T, what string, run *warden.Run, want api.Outcome) {
	t.Helper()
	if o := run.Outcome(); !sameOutcome(o, want) {
		t.Errorf("%s: Outcome = %+v, want %+v", what, o, want)
	}
}

func sameOutcome(a, b api.Outcome) bool {
	return a.Kind == b.Kind && a.Value == b.Value && a.Class == b.Class && a.Steps == b.Steps && slices.Equal(a.Out, b.Out)
}

func sameState(a, b api.State) bool {
	return slices.EqualFunc(a.Frames, b.Frames, sameFrame) && slices.EqualFunc(a.Heap, b.Heap, sameThing)
}

func sameFrame(a, b api.Frame) bool {
	return a.Class == b.Class && a.Method == b.Method && a.At == b.At && a.Reached == b.Reached &&
		slices.Equal(a.Stack, b.Stack) && slices.Equal(a.Locals, b.Locals) && slices.Equal(a.Types, b.Types) && slices.Equal(a.Vars, b.Vars)
}

func sameThing(a, b api.Thing) bool {
	return a.Kind == b.Kind && a.Class == b.Class && slices.Equal(a.Words, b.Words)
}
