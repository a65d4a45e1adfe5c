package promises

import (
	"math"
	"slices"
	"strings"
	"testing"

	"warden/api"
)

// entries: the family, and Me with methods of which the params are Ints, or not.
func entries(t *testing.T) []string {
	with := func(name string, params ...api.Type) api.Method {
		m := plainMethod(0, 1+len(params), code(do(api.Return)))
		m.Name, m.Params = name, params
		return m
	}
	return withFamily(t, with("none2"), with("one", number), with("two", number, number), with("ref2", refTo("Me")), with("mixed", number, ints), with("last", refsOf("Me"), number))
}

func TestP9Errors(t *testing.T) {
	long := make([]int, 300)
	for _, x := range []struct {
		class, method string
		args          []int
		heap          int
		e             api.Errno
	}{
		{"Me", "none2", nil, 0, api.OK}, {"Me", "none2", []int{}, 2000, api.OK}, {"Me", "one", []int{1}, 1, api.OK}, {"Me", "two", []int{1, 2}, 1999, api.OK}, {"Pup", "bark", nil, 9, api.OK},
		{"Me", "one", []int{math.MaxInt32}, 0, api.OK}, {"Me", "two", []int{math.MinInt32, 0}, 0, api.OK},
		{"You", "one", []int{1}, 0, api.ErrEntry}, {"", "one", []int{1}, 0, api.ErrEntry}, {"me", "one", []int{1}, 0, api.ErrEntry}, {"one", "Me", []int{1}, 0, api.ErrEntry},
		{"Me", "three", nil, 0, api.ErrEntry}, {"Me", "", nil, 0, api.ErrEntry}, {"Me", "n", nil, 0, api.ErrEntry}, {"Pet", "one", []int{1}, 0, api.ErrEntry}, {"Pet", "bark", nil, 0, api.ErrEntry}, {"Cat", "bark", nil, 0, api.ErrEntry}, {"Own", "num", nil, 0, api.ErrEntry},
		{"Object", "num", nil, 0, api.ErrEntry}, {"Throw", "one", nil, 0, api.ErrEntry}, {"Nil", "num", nil, 0, api.ErrEntry}, {"Depth", "Depth", nil, 0, api.ErrEntry},
		{"You", "one", nil, -1, api.ErrEntry}, {"Object", "m", long, 2001, api.ErrEntry}, {"Me", "three", []int{1 << 40}, -1, api.ErrEntry},
		{"Me", "none2", []int{0}, 0, api.ErrArg}, {"Me", "one", nil, 0, api.ErrArg}, {"Me", "one", []int{1, 2}, 0, api.ErrArg}, {"Me", "two", []int{1}, 0, api.ErrArg}, {"Me", "two", []int{1, 2, 3}, 0, api.ErrArg}, {"Me", "one", long, 0, api.ErrArg},
		{"Me", "ref2", nil, 0, api.ErrArg}, {"Me", "ref2", []int{8}, 0, api.ErrArg}, {"Me", "mixed", []int{1, 2}, 0, api.ErrArg}, {"Me", "mixed", []int{1}, 0, api.ErrArg}, {"Me", "last", []int{0, 0}, 0, api.ErrArg}, {"Me", "take", []int{0, 0}, 0, api.ErrArg},
		{"Me", "one", []int{math.MaxInt32 + 1}, 0, api.ErrArg}, {"Me", "one", []int{math.MinInt32 - 1}, 0, api.ErrArg}, {"Me", "two", []int{0, math.MaxInt}, 0, api.ErrArg}, {"Me", "two", []int{math.MinInt, 0}, 0, api.ErrArg}, {"Me", "two", []int{1 << 32, 0}, 0, api.ErrArg},
		{"Me", "none2", nil, -1, api.ErrArg}, {"Me", "none2", nil, 2001, api.ErrArg}, {"Me", "none2", nil, math.MinInt, api.ErrArg}, {"Me", "one", []int{1}, math.MaxInt, api.ErrArg},
	} {
		for _, checked := range []bool{false, true} {
			p := wantAnswer(t, "entries", entries(t), checked, api.OK, api.Place{})
			if r, e := p.Start(false, x.class, x.method, x.args, x.heap); e != x.e || (r != nil) != (e == api.OK) {
				t.Errorf("checked: %v: Start(%+v) = run: %v, %d", checked, x, r != nil, e)
			}
			r, e := p.Start(true, x.class, x.method, x.args, x.heap)
			want := x.e
			if !checked {
				want = api.ErrFast // whatever else is wrong
			}
			if e != want || (r != nil) != (e == api.OK) {
				t.Errorf("checked: %v: Start(fast, %+v) = run: %v, %d, want %d", checked, x, r != nil, e, want)
			}
		}
	}
}

// firstHeap: the things that are there from the start, but for the object.
func firstHeap() []api.Thing {
	var heap []api.Thing
	for _, name := range strings.Fields("Nil Index Size Cast Zero Memory Depth") {
		heap = append(heap, api.Thing{Kind: api.Ref, Class: name})
	}
	return heap
}

func objectOf(class string, w ...api.Word) api.Thing {
	return api.Thing{Kind: api.Ref, Class: class, Words: w}
}

// me8: the object with the address 8, of the class Me, whose fields are n, r, i, s.
func me8() api.Thing { return objectOf("Me", intWord(0), nullWord, nullWord, nullWord) }

func TestP9FirstState(t *testing.T) {
	p := wantAnswer(t, "entries", entries(t), true, api.OK, api.Place{})
	for _, x := range []struct {
		class, method, owner string
		args                 []int
		object               api.Thing
		locals               []api.Word
	}{
		{"Me", "two", "Me", []int{math.MinInt32, math.MaxInt32}, me8(), words(addressWord(8), intWord(math.MinInt32), intWord(math.MaxInt32))},
		{"Me", "num", "Pet", nil, me8(), words(addressWord(8))},
		{"Pup", "bark", "Dog", []int{}, objectOf("Pup", intWord(0), nullWord, nullWord, nullWord, nullWord), words(addressWord(8))},
	} {
		for _, heap := range []int{0, 3, 2000} {
			want := api.State{Frames: []api.Frame{{Class: x.owner, Method: x.method, Locals: x.locals}}, Heap: append(firstHeap(), x.object)}
			r := startOf(t, p, x.class, x.method, x.args, heap)
			wantRun(t, x.class+" "+x.method, r, api.Outcome{}, want)
			r = startAs(t, true, p, x.class, x.method, x.args, heap)
			wantRun(t, x.class+" "+x.method+", fast", r, api.Outcome{}, bare(want))
		}
	}
}

// TestP9Locals: as many as Locals tells, or as there are given ones; but those that the method has alone are there to be used.
func TestP9Locals(t *testing.T) {
	for locals := range 6 {
		m := plainMethod(3, locals, code(do(api.Load, 2), do(api.Print), do(api.Return)))
		m.Params = typeList(number, number)
		p := wantAnswer(t, "locals", withFamily(t, m), false, api.OK, api.Place{})
		r := startOf(t, p, "Me", "m", []int{5, 6}, 0)
		want := words(addressWord(8), intWord(5), intWord(6))
		for len(want) < locals {
			want = append(want, noWord)
		}
		if f := r.State().Frames; len(f) != 1 || !slices.Equal(f[0].Locals, want) {
			t.Errorf("%d locals: %+v, want %v", locals, f, want)
		}
		outcome := api.Outcome{Kind: api.Stuck}
		if locals > 2 {
			outcome = api.Outcome{Kind: api.Done, Out: []int{6}, Steps: 3}
		}
		r.Step(9)
		wantOutcome(t, "locals", r, outcome)
	}
}

// TestP9Override: the method is that of the class, or else of the nearest that it is below.
func TestP9Override(t *testing.T) {
	tells := func(n int) api.Method {
		m := plainMethod(1, 1, code(do(api.Push, n), do(api.Return)))
		m.Ret = number
		return m
	}
	p := wantAnswer(t, "four", filesOf(t, classOf("D", "C"), classOf("C", "B", tells(3)), classOf("B", "A"), classOf("A", "Object", tells(1))), true, api.OK, api.Place{})
	for class, want := range map[string]struct {
		owner string
		value int
	}{"A": {"A", 1}, "B": {"A", 1}, "C": {"C", 3}, "D": {"C", 3}} {
		r := startOf(t, p, class, "m", nil, 0)
		if s := r.State(); len(s.Frames) != 1 || s.Frames[0].Class != want.owner || len(s.Heap) != 8 || s.Heap[7].Class != class {
			t.Errorf("%s: %+v", class, s)
		}
		r.Step(2)
		wantOutcome(t, class, r, api.Outcome{Kind: api.Done, Value: want.value, Steps: 2})
	}
}
