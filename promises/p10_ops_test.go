package promises

import (
	"math"
	"slices"
	"strconv"
	"strings"
	"testing"

	"warden/api"
	"warden/warden"
)

// roomyMethod: one without params that tells nothing, with Stack 9 and Locals 4.
func roomyMethod(c []api.Ins, handlers ...api.Handler) api.Method {
	return plainMethod(9, 4, c, handlers...)
}

// runOf: a careful run of Me's m, with the family, unchecked.
func runOf(t *testing.T, heap int, m api.Method) *warden.Run {
	t.Helper()
	return startOf(t, wantAnswer(t, "unchecked", withFamily(t, m), false, api.OK, api.Place{}), "Me", m.Name, nil, heap)
}

// modelOf: what the model has for such a run.
func modelOf(heap int, m api.Method) *modelRun {
	return worldOf(append(family(), classOf("Me", "Pet", m))).start("Me", m.Name, nil, heap)
}

// wantStack asks for these words on the stack behind the code, of which no instruction jumps, and for the place there.
func wantStack(t *testing.T, what string, c []api.Ins, stack ...api.Word) {
	t.Helper()
	r := runOf(t, 2000, roomyMethod(c))
	if n := r.Step(len(c)); n != len(c) {
		t.Errorf("%s: Step(%d) = %d", what, len(c), n)
	}
	if f := r.State().Frames; len(f) != 1 || f[0].At != len(c) || !slices.Equal(f[0].Stack, stack) {
		t.Errorf("%s: %+v, want %v at %d", what, f, stack, len(c))
	}
}

// wantOver asks that the last instruction throws such a thing.
func wantOver(t *testing.T, what string, heap int, c []api.Ins, class string) {
	t.Helper()
	r := runOf(t, heap, roomyMethod(c))
	r.Step(len(c))
	wantOutcome(t, what, r, api.Outcome{Kind: api.Over, Class: class, Steps: len(c)})
}

func push(n ...int) []api.Ins {
	var c []api.Ins
	for _, x := range n {
		c = append(c, do(api.Push, x))
	}
	return c
}

func TestP10Reckon(t *testing.T) {
	for _, x := range []struct{ op, a, b, want int }{
		{api.Add, 2, 3, 5}, {api.Add, math.MaxInt32, 1, math.MinInt32}, {api.Add, math.MinInt32, -1, math.MaxInt32}, {api.Add, math.MinInt32, math.MinInt32, 0},
		{api.Sub, 2, 3, -1}, {api.Sub, math.MinInt32, 1, math.MaxInt32}, {api.Sub, 0, math.MinInt32, math.MinInt32}, {api.Sub, 3, 2, 1},
		{api.Mul, -2, 3, -6}, {api.Mul, 65536, 65536, 0}, {api.Mul, 65536, 32768, math.MinInt32}, {api.Mul, math.MinInt32, -1, math.MinInt32}, {api.Mul, math.MaxInt32, math.MaxInt32, 1}, {api.Mul, 46341, 46341, -2147479015},
		{api.Div, 7, 2, 3}, {api.Div, -7, 2, -3}, {api.Div, 7, -2, -3}, {api.Div, -7, -2, 3}, {api.Div, math.MinInt32, -1, math.MinInt32}, {api.Div, 0, 5, 0}, {api.Div, 1, math.MaxInt32, 0},
		{api.Rem, 7, 2, 1}, {api.Rem, -7, 2, -1}, {api.Rem, 7, -2, 1}, {api.Rem, -7, -2, -1}, {api.Rem, math.MinInt32, -1, 0}, {api.Rem, 0, 5, 0}, {api.Rem, 2, 7, 2},
	} {
		wantStack(t, show(x), append(push(9, x.a, x.b), do(x.op)), intWord(9), intWord(x.want))
	}
	for _, n := range []int{0, 1, -5, math.MinInt32} {
		wantOver(t, "Div by 0", 0, append(push(n, 0), do(api.Div)), "Zero")
		wantOver(t, "Rem by 0", 0, append(push(n, 0), do(api.Rem)), "Zero")
	}
}

// TestP10Reckon32: each pair of edges, held against what the model reckons without 32 bits.
func TestP10Reckon32(t *testing.T) {
	edges := []int{0, 1, -1, 2, -2, 3, 7, -7, 46340, 46341, -46341, 65535, 65536, 1 << 30, -1 << 30, math.MaxInt32, math.MaxInt32 - 1, math.MinInt32, math.MinInt32 + 1}
	for _, op := range []int{api.Add, api.Sub, api.Mul, api.Div, api.Rem} {
		m := plainMethod(2, 3, code(do(api.Load, 1), do(api.Load, 2), do(op), do(api.Return)))
		m.Params, m.Ret = typeList(number, number), number
		p := wantAnswer(t, "reckon", withFamily(t, m), true, api.OK, api.Place{})
		w := worldOf(append(family(), classOf("Me", "Pet", m)))
		for _, a := range edges {
			for _, b := range edges {
				r, model := startOf(t, p, "Me", "m", []int{a, b}, 0), w.start("Me", "m", []int{a, b}, 0)
				wantSteps(t, show([]int{op, a, b}), r, model, 5)
			}
		}
	}
}

func TestP10MovesOnTheStack(t *testing.T) {
	wantStack(t, "Push", push(5, math.MinInt32, math.MaxInt32), intWord(5), intWord(math.MinInt32), intWord(math.MaxInt32))
	wantStack(t, "Nought", code(do(api.Nought), do(api.Push)), nullWord, intWord(0))
	wantStack(t, "Pop", append(push(1, 2), do(api.Pop)), intWord(1))
	wantStack(t, "Dup", append(push(1, 2), do(api.Dup)), intWord(1), intWord(2), intWord(2))
	wantStack(t, "Swap", append(push(1, 2, 3), do(api.Swap)), intWord(1), intWord(3), intWord(2))
	wantStack(t, "Load", append(push(1), do(api.Load)), intWord(1), addressWord(8))
	c := after(push(4, 5), code(do(api.Store, 3), do(api.Store, 0), do(api.Load, 3), do(api.Load, 0), do(api.Load, 3)))
	wantStack(t, "Store", c, intWord(5), intWord(4), intWord(5))
	r := runOf(t, 0, roomyMethod(c))
	r.Step(3)
	if l := r.State().Frames[0].Locals; !slices.Equal(l, words(addressWord(8), noWord, noWord, intWord(5))) {
		t.Errorf("one Store: %v", l)
	}
}

func TestP10Print(t *testing.T) {
	r := runOf(t, 0, roomyMethod(append(push(1, 2, 3), do(api.Print), do(api.Print), do(api.Push, math.MinInt32), do(api.Print), do(api.Return))))
	r.Step(4)
	wantOutcome(t, "one Print", r, api.Outcome{Out: []int{3}, Steps: 4})
	r.Step(9)
	wantOutcome(t, "Print", r, api.Outcome{Kind: api.Done, Out: []int{3, 2, math.MinInt32}, Steps: 8})
}

// goesTo: the place behind the last instruction of the code, which jumps to 7 or goes on.
func goesTo(t *testing.T, c []api.Ins) int {
	t.Helper()
	r := runOf(t, 99, roomyMethod(append(slices.Clone(c), times(9, do(api.Push))...)))
	if n := r.Step(len(c)); n != len(c) {
		t.Errorf("%v: Step(%d) = %d", c, len(c), n)
	}
	if f := r.State().Frames; len(f) == 1 && len(f[0].Stack) == 0 {
		return f[0].At
	}
	t.Errorf("%v: %+v, %+v", c, r.Outcome(), r.State().Frames)
	return -1
}

func TestP10Jumps(t *testing.T) {
	for _, n := range []int{0, 1, -1, 1 << 16, math.MinInt32, math.MaxInt32} {
		want := 2
		if n == 0 {
			want = 7
		}
		if at := goesTo(t, append(push(n), do(api.IfZero, 7))); at != want {
			t.Errorf("IfZero of %d goes to %d", n, at)
		}
		for _, x := range []int{0, 1, -1, 1 << 16, math.MinInt32, math.MaxInt32} {
			want := 3
			if n < x {
				want = 7
			}
			if at := goesTo(t, append(push(n, x), do(api.IfLess, 7))); at != want {
				t.Errorf("IfLess of %d, %d goes to %d", n, x, at)
			}
		}
	}
	if at := goesTo(t, code(do(api.Jump, 7))); at != 7 {
		t.Errorf("Jump goes to %d", at)
	}
	if at := goesTo(t, code(do(api.Jump, 0))); at != 0 {
		t.Errorf("Jump to itself goes to %d", at)
	}
	two := code(by(api.New, "Pet"), by(api.New, "Pet"))
	arrays := code(do(api.Push), do(api.NewInts), do(api.Push), do(api.NewInts))
	for _, x := range []struct {
		what   string
		c      []api.Ins
		isMade bool
	}{
		{"one object", code(do(api.Load), do(api.Load)), true}, {"null", code(do(api.Nought), do(api.Nought)), true}, {"null and an object", code(do(api.Nought), do(api.Load)), false}, {"an object and null", code(do(api.Load), do(api.Nought)), false},
		{"two objects that are alike", two, false}, {"two arrays that are alike", arrays, false}, {"one array", code(do(api.Push), do(api.NewInts), do(api.Dup)), true}, {"an array and an object", code(do(api.Push), by(api.NewRefs, "Me"), do(api.Load)), false},
	} {
		want := len(x.c) + 1
		if x.isMade {
			want = 7
		}
		if at := goesTo(t, append(x.c, do(api.IfSame, 7))); at != want {
			t.Errorf("IfSame of %s goes to %d", x.what, at)
		}
	}
}

// TestP10StuckOfKinds: each instruction with words of all types: it is stuck just where they don't fit; else what comes of it is what the model has.
func TestP10StuckOfKinds(t *testing.T) {
	asked := map[api.Ins]int{}
	for _, row := range kindRows() {
		if asked[row.ins]++; asked[row.ins] > 1 {
			continue
		}
		for _, taken := range kindsTaken(len(row.takes)) {
			if slices.Contains(taken, "None") { // no word on a stack is none
				continue
			}
			c := push(7)
			for _, k := range taken {
				c = append(c, valueOf(kinds[k], len(c))...)
			}
			i, at := row.ins, len(c)
			if isJump(i.Op) {
				i.A = at
			}
			what := show(row.ins) + " of " + strings.Join(taken, ", ")
			m := plainMethod(5, 2, append(c, i, do(api.Return)))
			r, model := runOf(t, 99, m), modelOf(99, m)
			wantSteps(t, what, r, model, at)
			wantSteps(t, what, r, model, 1)
			if _, fits := rowFor(row.ins, taken); fits == (r.Outcome().Kind == api.Stuck) {
				t.Errorf("%s: %+v", what, r.Outcome())
			}
		}
	}
}

// TestP10StuckOfReturn: by the Ret of the method, whatever is deeper on the stack.
func TestP10StuckOfReturn(t *testing.T) {
	for ret, under := range map[string]string{
		"None": anyKind, "Int": "Int", "Ints": "Null Ints", "Pets": "Null Pets", "Dogs": "Null Dogs", "Object": objectKind,
		"Pet": petKind, "Dog": dogKind, "Cat": "Null Cat", "Throw": throwKind,
	} {
		for _, k := range strings.Fields(anyKind)[1:] {
			c := append(push(3), valueOf(kinds[k], 0)...)
			m := plainMethod(2, 1, append(c, do(api.Return)))
			m.Ret = kinds[ret]
			r := runOf(t, 99, m)
			n := r.Step(9)
			want := api.Outcome{Kind: api.Stuck, Steps: len(c)}
			if slices.Contains(strings.Fields(under), k) {
				want = api.Outcome{Kind: api.Done, Steps: len(c) + 1}
				if kinds[ret] != nothing && kinds[k].Kind == api.Ref {
					want.Class = kinds[k].Name
				}
			}
			wantOutcome(t, "Return of "+k+" as "+ret, r, want)
			if n != want.Steps {
				t.Errorf("Return of %s as %s: Step = %d", k, ret, n)
			}
		}
	}
}

func TestP10StuckOfHeights(t *testing.T) {
	for _, row := range append(stackRows(), stackRow{do(api.Throw), 1, 0}, stackRow{do(api.Return), 0, 0}) {
		for height := range 5 {
			i := row.ins
			if isJump(i.Op) {
				i.A = 0
			}
			for stack := height; stack < 7; stack++ {
				m := plainMethod(stack, 1, after(times(height, valueFor(i)), code(i)))
				what := show(i) + " on " + strconv.Itoa(height) + " of " + strconv.Itoa(stack)
				r, model := runOf(t, 99, m), modelOf(99, m)
				wantSteps(t, what, r, model, height+1)
				isWrong := height < row.takes || height-row.takes+row.puts > stack
				if o := r.Outcome(); isWrong && (o.Kind != api.Stuck || o.Steps != height) {
					t.Errorf("%s: %+v", what, o)
				}
			}
		}
	}
	r := runOf(t, 99, plainMethod(2, 1, push(1, 1, 1)))
	if n := r.Step(9); n != 2 || r.Outcome().Kind != api.Stuck {
		t.Errorf("a third Push: %d, %+v", n, r.Outcome())
	}
}

// valueFor: what puts a value that the instruction takes most of.
func valueFor(i api.Ins) api.Ins {
	switch i.Op {
	case api.IfSame, api.Get, api.Put, api.Call, api.Length, api.GetInt, api.GetRef, api.PutRef, api.To, api.Is, api.Throw:
		return do(api.Nought)
	}
	return do(api.Push, 1)
}

// TestP10StuckOfMissing: what needs something that is not there is stuck, though its values fit, and whether it were used or not.
func TestP10StuckOfMissing(t *testing.T) {
	values := map[int][]api.Ins{
		api.Store: push(1), api.IfZero: push(1), api.IfLess: push(1, 1), api.IfSame: code(do(api.Nought), do(api.Load)), api.NewRefs: push(-1),
		api.Get: code(do(api.Nought)), api.Put: code(do(api.Nought), do(api.Nought)), api.Call: code(do(api.Nought)), api.To: code(do(api.Nought)), api.Is: code(do(api.Nought)),
	}
	for _, bad := range missing() {
		length := len(values[bad.Op]) + 2
		if isJump(bad.Op) && bad.A < 9 {
			bad.A += length - 3 // where there are 3 instructions, it is 3, 4 or far behind
		}
		c := after(values[bad.Op], code(bad, do(api.Return)))
		r := runOf(t, 0, plainMethod(9, 2, c, handlerTo(0, 9, 1, "Throw")))
		n := r.Step(9)
		if want := len(values[bad.Op]); n != want {
			t.Errorf("%s: %d steps, want %d", show(bad), n, want)
		}
		wantOutcome(t, show(bad), r, api.Outcome{Kind: api.Stuck, Steps: n})
	}
	for _, c := range [][]api.Ins{nil, push(1), push(1, 2, 3), code(do(api.Push), do(api.IfZero, 3), do(api.Return), do(api.Nought))} {
		r := runOf(t, 0, plainMethod(9, 2, c))
		n := r.Step(9)
		wantOutcome(t, "no instruction", r, api.Outcome{Kind: api.Stuck, Steps: n})
		if f := r.State().Frames; len(f) != 1 || f[0].At != len(c) {
			t.Errorf("no instruction: %+v", f)
		}
	}
}

// TestP10StuckOfLocals: of a local that is no word, and of one that is there, but not by the method's Locals.
func TestP10StuckOfLocals(t *testing.T) {
	m := plainMethod(9, 1, code(do(api.Load), do(api.Load, 1)))
	m.Params = typeList(number)
	p := wantAnswer(t, "few locals", withFamily(t, m), false, api.OK, api.Place{})
	r := startOf(t, p, "Me", "m", []int{5}, 0)
	r.Step(9)
	wantOutcome(t, "few locals", r, api.Outcome{Kind: api.Stuck, Steps: 1})
	r = runOf(t, 0, roomyMethod(code(do(api.Push), do(api.Store, 2), do(api.Load, 2), do(api.Load, 1))))
	r.Step(9)
	wantOutcome(t, "no word", r, api.Outcome{Kind: api.Stuck, Steps: 3})
	r = runOf(t, 0, plainMethod(9, 0, code(do(api.Load))))
	r.Step(9)
	wantOutcome(t, "no local", r, api.Outcome{Kind: api.Stuck})
}

// TestP10StuckStays: the frames and the heap stay as they were ahead of the step that could not be.
func TestP10StuckStays(t *testing.T) {
	r := runOf(t, 50, roomyMethod(code(by(api.New, "Pup"), do(api.Push, 3), do(api.NewInts), do(api.Store, 1), do(api.Push, 3), do(api.Add))))
	r.Step(5)
	before := r.State()
	for range 3 {
		if n := r.Step(7); n != 0 {
			t.Errorf("Step = %d", n)
		}
		wantRun(t, "stuck", r, api.Outcome{Kind: api.Stuck, Steps: 5}, before)
	}
}
