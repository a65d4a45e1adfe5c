package promises

import (
	"reflect"
	"slices"
	"testing"

	"warden/api"
	"warden/warden"
)

// roomy: the list with spare room behind it, which holds mark.
func roomy[T any](list []T, mark T) []T {
	wide := make([]T, 0, len(list)+4)
	wide = append(wide, list...)
	for range 4 {
		wide = append(wide, mark)
	}
	return wide[:len(list)]
}

// roomySample: the sample, with spare room behind each list.
func roomySample() api.Class {
	c := sample()
	for i := range c.Methods {
		m := &c.Methods[i]
		m.Params = roomy(m.Params, api.Type{Kind: 77, Name: "spare"})
		m.Code = roomy(m.Code, api.Ins{Op: 77})
		m.Handlers = roomy(m.Handlers, api.Handler{From: 77})
	}
	c.Fields = roomy(c.Fields, api.Field{Name: "spare"})
	c.Methods = roomy(c.Methods, api.Method{Name: "spare"})
	return c
}

// whole: the class with each list as long as its room.
func whole(c api.Class) api.Class {
	c.Fields = c.Fields[:cap(c.Fields)]
	methods := append([]api.Method(nil), c.Methods[:cap(c.Methods)]...)
	for i := range methods {
		m := &methods[i]
		m.Params, m.Code, m.Handlers = m.Params[:cap(m.Params)], m.Code[:cap(m.Code)], m.Handlers[:cap(m.Handlers)]
	}
	c.Methods = methods
	return c
}

func TestP2EncodeWritesNothing(t *testing.T) {
	for _, turn := range []func(*api.Class){
		func(*api.Class) {},
		func(c *api.Class) { c.Methods[1].Name = "" },
		func(c *api.Class) { c.Methods[0].Code[3].Op = 99 },
		func(c *api.Class) { c.Methods[1].Code = make([]api.Ins, 3000) },
	} {
		given, kept := roomySample(), roomySample()
		turn(&given)
		turn(&kept)
		warden.Encode(given)
		if !reflect.DeepEqual(whole(given), whole(kept)) {
			t.Errorf("Encode wrote into what it was given: %s", show(whole(given)))
		}
	}
}

// TestP2EncodeKeepsNothing: a file stays as it is when the class is written into, and so does the next file.
func TestP2EncodeKeepsNothing(t *testing.T) {
	c, want := sample(), fileOf(sampleParts())
	first, _ := warden.Encode(c)
	scribble(&c, true)
	if first != want {
		t.Errorf("the file changed with the class: %.300q", first)
	}
	wantFile(t, sample(), want)
}

// scribble writes into a class's lists, if inside is set, and into their spare room.
func scribble(c *api.Class, inside bool) {
	for i := range c.Methods {
		m := &c.Methods[i]
		fill(m.Params, api.Type{Kind: 99, Name: "bad"}, inside)
		fill(m.Code, api.Ins{Op: 99, A: 99, Class: "bad", Member: "bad"}, inside)
		fill(m.Handlers, api.Handler{From: 99, To: 99, At: 99, Class: "bad"}, inside)
	}
	fill(c.Fields, api.Field{Name: "bad"}, inside)
	fill(c.Methods, api.Method{Name: "bad"}, inside)
}

func fill[T any](list []T, x T, inside bool) {
	from := len(list)
	if inside {
		from = 0
	}
	for i := range list[from:cap(list)] {
		list[from:cap(list)][i] = x
	}
}

func TestP2DecodeGivesNewMemory(t *testing.T) {
	file := fileOf(sampleParts())
	first, _, _ := warden.Decode(file)
	second, _, _ := warden.Decode(file)
	scribble(&first, false)
	if !sameClass(first, sample()) {
		t.Errorf("the spare room of one list is in another: %s", show(first))
	}
	scribble(&first, true)
	if !sameClass(second, sample()) {
		t.Errorf("two classes share memory: %s", show(second))
	}
	third, e, _ := warden.Decode(file)
	if e != api.OK || !sameClass(third, sample()) {
		t.Errorf("Decode gives another class once the first was written into: %s, %d", show(third), e)
	}
}

// TestP2LoadKeepsNothing: a program stays as it is when the list of files is written into, which Load itself does not do.
func TestP2LoadKeepsNothing(t *testing.T) {
	m := plainMethod(1, 2, code(do(api.Push), do(api.Store, 1), do(api.Return)))
	kept := withFamily(t, m)
	files := roomy(kept, "spare")
	p := wantAnswer(t, "the family", files, true, api.OK, api.Place{})
	if !reflect.DeepEqual(files[:cap(files)], roomy(kept, "spare")[:cap(files)]) {
		t.Errorf("Load wrote into its files: %q", files[:cap(files)])
	}
	want, _ := p.Typing("Me", "m")
	fill(files, "W1", true)
	wantTyping(t, "the files changed", p, "m", want)
	wantAnswer(t, "the files changed", files, true, api.ErrShort, api.Place{At: 2})
	wantTyping(t, "another Load", p, "m", want)
}

// scribbleFrames writes into the lists of frames, if inside is set, and into their spare room.
func scribbleFrames(frames []api.Frame, inside bool) {
	for _, f := range frames {
		fill(f.Types, api.Type{Kind: 99, Name: "bad"}, inside)
		fill(f.Vars, api.Type{Kind: 99, Name: "bad"}, inside)
	}
	fill(frames, api.Frame{At: 99, Class: "bad"}, inside)
}

func TestP2TypingGivesNewMemory(t *testing.T) {
	for seed := range int64(100) {
		r := newMaker(seed)
		r.make()
		p, e, _ := warden.Load(withFamily(t, r.m), true)
		if e != api.OK {
			continue
		}
		_, _, want := r.w.check("Me", r.m)
		first, _ := p.Typing("Me", "m")
		second, _ := p.Typing("Me", "m")
		scribbleFrames(first, false)
		for at, f := range want {
			if f.Reached && (!sameList(first[at].Types, f.Types) || !sameList(first[at].Vars, f.Vars)) {
				t.Errorf("seed %d: the spare room of one list is in another: %+v, want %+v", seed, first[at], f)
			}
		}
		scribbleFrames(first, true)
		for at, f := range want {
			if f.Reached && (!sameList(second[at].Types, f.Types) || !sameList(second[at].Vars, f.Vars)) {
				t.Errorf("seed %d: two typings share memory: %+v, want %+v", seed, second[at], f)
			}
		}
		wantTyping(t, "once more", p, "m", want)
	}
}

// TestP2ListsApart: of the lists of one typing none is a piece of another.
func TestP2ListsApart(t *testing.T) {
	f := typingOf(t, "lists", plainMethod(3, 4, code(do(api.Push), do(api.Push), do(api.Push), do(api.Return))))
	fill(f[3].Types, refTo("bad"), true)
	fill(f[1].Vars, refTo("bad"), true)
	for at := range f {
		if at != 3 && !sameList(f[at].Types, filled(at, number)) || at != 1 && !sameList(f[at].Vars, typeList(refTo("Me"), nothing, nothing, nothing)) {
			t.Errorf("frame %d: %+v", at, f[at])
		}
	}
}

// TestP2StartKeepsNothing: the args stay as they are, and the run as it is when they are written into.
func TestP2StartKeepsNothing(t *testing.T) {
	m := plainMethod(1, 4, code(do(api.Push, 3), do(api.Store, 1), do(api.Push, 4), do(api.Store, 3), do(api.Load, 2), do(api.Print), do(api.Return)))
	m.Params = typeList(number, number)
	p := wantAnswer(t, "args", withFamily(t, m), true, api.OK, api.Place{})
	for _, fast := range bothWays {
		args := roomy([]int{5, 6}, 77)
		r, e := p.Start(fast, "Me", "m", args, 0)
		if e != api.OK {
			t.Fatalf("Start = %d", e)
		}
		want := r.State()
		r.Step(4)
		if all := args[:cap(args)]; !reflect.DeepEqual(all[:6], []int{5, 6, 77, 77, 77, 77}) {
			t.Errorf("the args: %v", all)
		}
		again, _ := p.Start(fast, "Me", "m", args, 0)
		fill(args, 99, true)
		wantRun(t, "the args changed", again, api.Outcome{}, want)
		again.Step(9)
		wantOutcome(t, "the args changed", again, api.Outcome{Kind: api.Done, Out: []int{6}, Steps: 7})
	}
}

// scribbleState writes into the lists of a state, if inside is set, and into their spare room.
func scribbleState(s api.State, inside bool) {
	bad := api.Word{Tag: 99, V: 99}
	for _, f := range s.Frames {
		fill(f.Stack, bad, inside)
		fill(f.Locals, bad, inside)
	}
	for _, x := range s.Heap {
		fill(x.Words, bad, inside)
	}
	fill(s.Frames, api.Frame{Class: "bad"}, inside)
	fill(s.Heap, api.Thing{Class: "bad"}, inside)
}

// TestP2RunGivesNewMemory: what comes out is the caller's, spare room too: the run goes on as if nothing was written there, and so does what was told else.
func TestP2RunGivesNewMemory(t *testing.T) {
	for seed := range int64(600) {
		fast := seed%2 == 1
		p, w, args := placeFor(t, fast, seed)
		run, model := startAs(t, fast, p, "Me", "m", args, 60), w.start("Me", "m", args, 60).as(fast)
		for model.outcome.Kind == api.Going && model.outcome.Steps < 150 {
			first, second, out, other := run.State(), run.State(), run.Outcome().Out, run.Outcome().Out
			scribbleState(first, false)
			if !sameState(first, model.state()) {
				t.Fatalf("seed %d: the spare room of one list is in another: %+v, want %+v", seed, first, model.state())
			}
			scribbleState(first, true)
			fill(out, 99, true)
			if !sameState(second, model.state()) || !slices.Equal(other, model.outcome.Out) {
				t.Fatalf("seed %d: two answers share memory: %+v, %v", seed, second, other)
			}
			wantSteps(t, "written into", run, model, 1)
		}
	}
}

// TestP2StatesStay: what was told stays as it is when the run goes on.
func TestP2StatesStay(t *testing.T) {
	for seed := range int64(400) {
		fast := seed%2 == 1
		p, w, args := placeFor(t, fast, seed)
		run := startAs(t, fast, p, "Me", "m", args, 60)
		var states []api.State
		var outcomes []api.Outcome
		for range 60 {
			states, outcomes = append(states, run.State()), append(outcomes, run.Outcome())
			run.Step(1)
		}
		model := w.start("Me", "m", args, 60).as(fast)
		for k := range states {
			if !sameState(states[k], model.state()) || !sameOutcome(outcomes[k], model.outcome) {
				t.Fatalf("seed %d: the state ahead of step %d changed: %+v, want %+v", seed, k, states[k], model.state())
			}
			model.step(1)
		}
	}
}

// TestP2RunsApart: of runs of one program, and of typings of it, none can tell that there are others.
func TestP2RunsApart(t *testing.T) {
	for seed := range int64(200) {
		isVillage := seed%2 == 1
		p, w, args := placeFor(t, isVillage, seed)
		var runs []*warden.Run
		var models []*modelRun
		for k := range 4 {
			fast := isVillage && k > 0
			runs = append(runs, startAs(t, fast, p, "Me", "m", args, 20*k))
			models = append(models, w.start("Me", "m", args, 20*k).as(fast))
		}
		for n := range 40 {
			for k, run := range runs {
				wantSteps(t, "one of several", run, models[k], (n+k)%5)
				scribbleState(run.State(), true)
			}
		}
		if t.Failed() {
			t.FailNow()
		}
	}
}

// TestP2ProgramStays: runs leave a program's typings as they are.
func TestP2ProgramStays(t *testing.T) {
	m := plainMethod(2, 3, code(do(api.Push), do(api.Store, 1), by(api.New, "Me"), do(api.Store, 2), do(api.Load), by(api.Call, "Me", "m"), do(api.Return)))
	p := wantAnswer(t, "typed", withFamily(t, m), true, api.OK, api.Place{})
	want, _ := p.Typing("Me", "m")
	for k := range 4 {
		r := startAs(t, bothWays[k%2], p, "Me", "m", nil, 100)
		r.Step(5000)
		wantOutcome(t, "typed", r, api.Outcome{Kind: api.Over, Class: "Depth", Steps: 120})
		scribbleState(r.State(), true)
		wantTyping(t, "typed", p, "m", want)
	}
}
