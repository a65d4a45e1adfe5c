package promises

import (
	"math"
	"slices"
	"testing"

	"warden/api"
)

// taking: what takes room on the heap, and how much.
func taking() []struct {
	what string
	c    []api.Ins
	room int
} {
	return []struct {
		what string
		c    []api.Ins
		room int
	}{
		{"an object without fields", code(by(api.New, "Object")), 1}, {"an object of a class that is built in", code(by(api.New, "Zero")), 1}, {"an object of Own", code(by(api.New, "Own")), 1},
		{"an object with fields", code(by(api.New, "Pet")), 5}, {"an object with fields from above", code(by(api.New, "Me")), 5}, {"an object with fields of both", code(by(api.New, "Dog")), 6}, {"an object of Pup", code(by(api.New, "Pup")), 6},
		{"no ints", code(do(api.Push, 0), do(api.NewInts)), 1}, {"ints", code(do(api.Push, 3), do(api.NewInts)), 4},
		{"no references", code(do(api.Push, 0), by(api.NewRefs, "Pup")), 1}, {"references", code(do(api.Push, 7), by(api.NewRefs, "Pup")), 8},
		{"many ints", code(do(api.Push, 1999), do(api.NewInts)), 2000},
	}
}

func TestP10Memory(t *testing.T) {
	for _, x := range taking() {
		for heap := max(0, x.room-3); heap <= min(api.MaxHeap, x.room+3); heap++ {
			r := runOf(t, heap, roomyMethod(x.c))
			n := r.Step(len(x.c))
			if n != len(x.c) {
				t.Errorf("%s: Step = %d", x.what, n)
			}
			want, things := api.Outcome{Steps: n}, 9
			if heap < x.room {
				want, things = api.Outcome{Kind: api.Over, Class: "Memory", Steps: n}, 8
			}
			wantOutcome(t, x.what, r, want)
			if h := r.State().Heap; len(h) != things {
				t.Errorf("%s, of %d: %d things", x.what, heap, len(h))
			}
		}
	}
	for _, n := range []int{2000, 2001, 1 << 16, math.MaxInt32 - 1, math.MaxInt32} {
		wantOver(t, "too many", 2000, append(push(n), do(api.NewInts)), "Memory")
		wantOver(t, "too many", 2000, append(push(n), by(api.NewRefs, "Me")), "Memory")
	}
	for _, n := range []int{-1, -2, math.MinInt32} {
		for _, heap := range []int{0, 2000} {
			wantOver(t, "below 0", heap, append(push(n), do(api.NewInts)), "Size")
			wantOver(t, "below 0", heap, append(push(n), by(api.NewRefs, "Me")), "Size")
		}
	}
}

// TestP10MemoryTogether: all that was taken counts, also what nothing leads to any more; what was too much takes nothing.
func TestP10MemoryTogether(t *testing.T) {
	pop := do(api.Pop)
	c := code(
		by(api.New, "Pet"), pop, do(api.Push, 2), do(api.NewInts), pop, // 8 of 12
		do(api.Push, 4), do(api.NewInts), pop, // one too many, to 7
		do(api.Push, 3), do(api.NewInts), pop, // 12 of 12
		by(api.New, "Object"),
	)
	r := runOf(t, 12, roomyMethod(c, handlerTo(6, 7, 7, "Memory")))
	if n := r.Step(len(c) + 1); n != len(c) {
		t.Errorf("Step = %d", n)
	}
	heap := append(firstHeap(), me8(), objectOf("Pet", intWord(0), nullWord, nullWord, nullWord),
		api.Thing{Kind: api.Ints, Words: filled(2, intWord(0))}, api.Thing{Kind: api.Ints, Words: filled(3, intWord(0))})
	wantRun(t, "together", r, api.Outcome{Kind: api.Over, Class: "Memory", Steps: len(c)}, api.State{Heap: heap})
}

// TestP10Things: what is new has the next address, and the noughts or nulls of its fields or elements.
func TestP10Things(t *testing.T) {
	c := code(by(api.New, "Pup"), do(api.Push, 2), do(api.NewInts), do(api.Push, 3), by(api.NewRefs, "Dog"), by(api.New, "Nil2"), by(api.New, "Index"), do(api.Push, 0), by(api.NewRefs, "Zero"), do(api.Push, 0), do(api.NewInts))
	wantStack(t, "addresses", c, addressWord(9), addressWord(10), addressWord(11), addressWord(12), addressWord(13), addressWord(14), addressWord(15))
	r := runOf(t, 2000, roomyMethod(c))
	r.Step(len(c))
	want := append(firstHeap(), me8(), objectOf("Pup", intWord(0), nullWord, nullWord, nullWord, nullWord),
		api.Thing{Kind: api.Ints, Words: filled(2, intWord(0))}, api.Thing{Kind: api.Refs, Class: "Dog", Words: filled(3, nullWord)},
		objectOf("Nil2"), objectOf("Index"), api.Thing{Kind: api.Refs, Class: "Zero"}, api.Thing{Kind: api.Ints})
	if h := r.State().Heap; !slices.EqualFunc(h, want, sameThing) {
		t.Errorf("the heap: %+v, want %+v", h, want)
	}
}

// layers: three classes with fields, of which the lowest one has none of its own, and Me below.
func layers() []api.Class {
	return []api.Class{
		withFields(classOf("Mid", "Top"), field("c", refTo("Me")), field("d", number)),
		withFields(classOf("Top", "Object"), field("a", number), field("b", ints)),
		classOf("Low", "Mid"),
	}
}

// layersUsed: the layers, and Me, which puts and gets the fields of all, by the names of several classes, and ends.
func layersUsed() []api.Class {
	c := code(by(api.New, "Me"), do(api.Store, 1))
	put := func(class, member string, value ...api.Ins) {
		c = after(c, code(do(api.Load, 1)), value, code(by(api.Put, class, member)))
	}
	put("Top", "a", do(api.Push, 11))
	put("Low", "b", do(api.Push, 1), do(api.NewInts))
	put("Mid", "c", do(api.Load))
	put("Low", "d", do(api.Push, 14))
	put("Me", "e", do(api.Push, 15))
	put("Me", "f", do(api.Load, 1))
	for _, x := range [][2]string{{"Me", "a"}, {"Mid", "b"}, {"Low", "c"}, {"Mid", "d"}, {"Me", "e"}, {"Me", "f"}} {
		c = append(c, do(api.Load, 1), by(api.Get, x[0], x[1]))
	}
	me := withFields(classOf("Me", "Low", roomyMethod(append(c, do(api.Return)))), field("e", number), field("f", refTo("Top")))
	return append(layers(), me)
}

// TestP10Fields: those of the Super come first; each is the same one whichever class it is named by.
func TestP10Fields(t *testing.T) {
	classes := layersUsed()
	steps := len(classes[3].Methods[0].Code) - 1
	for _, checked := range []bool{false, true} {
		p := wantAnswer(t, "layers", filesOf(t, classes...), checked, api.OK, api.Place{})
		r := startOf(t, p, "Me", "m", nil, 99)
		if n := r.Step(steps); n != steps {
			t.Errorf("Step = %d, %+v", n, r.Outcome())
		}
		list := words(intWord(11), addressWord(10), addressWord(8), intWord(14), intWord(15), addressWord(9))
		s := r.State()
		if len(s.Heap) != 10 || !sameThing(s.Heap[8], objectOf("Me", list...)) || !sameThing(s.Heap[7], objectOf("Me", intWord(0), nullWord, nullWord, intWord(0), intWord(0), nullWord)) {
			t.Errorf("the heap: %+v", s.Heap)
		}
		if !slices.Equal(s.Frames[0].Stack, list) {
			t.Errorf("the stack: %+v", s.Frames[0].Stack)
		}
	}
}

func TestP10Nil(t *testing.T) {
	null := do(api.Nought)
	for what, c := range map[string][]api.Ins{
		"Get": code(null, by(api.Get, "Pet", "n")), "Put": code(null, do(api.Push), by(api.Put, "Pet", "n")), "Put of null": code(null, null, by(api.Put, "Pet", "r")),
		"Call": code(null, by(api.Call, "Pet", "none")), "Call with params": code(null, do(api.Push), do(api.Load), by(api.Call, "Pet", "take")),
		"Length": code(null, do(api.Length)), "Throw": code(null, do(api.Throw)),
		"GetInt": code(null, do(api.Push), do(api.GetInt)), "GetInt outside": code(null, do(api.Push, -1), do(api.GetInt)), "GetRef": code(null, do(api.Push, 9), do(api.GetRef)),
		"PutInt": code(null, do(api.Push, -1), do(api.Push), do(api.PutInt)), "PutRef": code(null, do(api.Push), null, do(api.PutRef)), "PutRef of an array": code(null, do(api.Push, 7), do(api.Push), do(api.NewInts), do(api.PutRef)),
	} {
		wantOver(t, what, 9, c, "Nil")
	}
}

func TestP10Elements(t *testing.T) {
	ints := func(behind ...api.Ins) []api.Ins { return append(code(do(api.Push, 3), do(api.NewInts)), behind...) }
	refs := func(behind ...api.Ins) []api.Ins {
		return append(code(do(api.Push, 3), by(api.NewRefs, "Pet")), behind...)
	}
	for _, n := range []int{-1, 3, 4, math.MinInt32, math.MaxInt32} {
		wantOver(t, "GetInt outside", 9, ints(do(api.Push, n), do(api.GetInt)), "Index")
		wantOver(t, "PutInt outside", 9, ints(do(api.Push, n), do(api.Push, 1), do(api.PutInt)), "Index")
		wantOver(t, "GetRef outside", 9, refs(do(api.Push, n), do(api.GetRef)), "Index")
		wantOver(t, "PutRef outside", 9, refs(do(api.Push, n), do(api.Nought), do(api.PutRef)), "Index")
	}
	wantOver(t, "no elements", 9, code(do(api.Push), do(api.NewInts), do(api.Push), do(api.GetInt)), "Index")
	for n := range 3 {
		c := ints(do(api.Dup), do(api.Push, n), do(api.Push, 70+n), do(api.PutInt), do(api.Store, 1))
		d := refs(do(api.Dup), do(api.Push, n), do(api.Load), do(api.PutRef), do(api.Store, 1))
		var gotInts, gotRefs []api.Word
		for k := range 3 {
			c, d = append(c, do(api.Load, 1), do(api.Push, k), do(api.GetInt)), append(d, do(api.Load, 1), do(api.Push, k), do(api.GetRef))
			gotInts, gotRefs = append(gotInts, intWord(0)), append(gotRefs, nullWord)
		}
		gotInts[n], gotRefs[n] = intWord(70+n), addressWord(8)
		wantStack(t, "ints", c, gotInts...)
		wantStack(t, "references", d, gotRefs...)
	}
	for _, n := range []int{0, 1, 5, 1000} {
		wantStack(t, "Length", code(do(api.Push, n), do(api.NewInts), do(api.Length)), intWord(n))
		wantStack(t, "Length", code(do(api.Push, n), by(api.NewRefs, "Me"), do(api.Length)), intWord(n))
	}
	// an array of references of Object may hold arrays, and itself
	c := code(do(api.Push, 2), by(api.NewRefs, "Object"), do(api.Dup), do(api.Push), do(api.Load), do(api.PutRef), do(api.Dup), do(api.Dup), do(api.Push, 1), do(api.Swap), do(api.PutRef), do(api.Push, 1), do(api.GetRef))
	wantStack(t, "itself", c, addressWord(9))
}

// TestP10PutRefOfType: by the class of the array's references, not by what else the words may be.
func TestP10PutRefOfType(t *testing.T) {
	for _, x := range []struct {
		array, value string
		isStuck      bool
	}{
		{"Pet", "Pet", false}, {"Pet", "Pup", false}, {"Dog", "Pup", false}, {"Dog", "Pet", true}, {"Pup", "Dog", true}, {"Cat", "Dog", true}, {"Object", "Own", false}, {"Throw", "Own", false}, {"Own", "Throw", true},
	} {
		r := runOf(t, 99, roomyMethod(code(do(api.Push, 1), by(api.NewRefs, x.array), do(api.Push), by(api.New, x.value), do(api.PutRef), do(api.Return))))
		r.Step(9)
		want := api.Outcome{Kind: api.Done, Steps: 6}
		if x.isStuck {
			want = api.Outcome{Kind: api.Stuck, Steps: 4}
		}
		wantOutcome(t, x.value+" into an array of "+x.array, r, want)
	}
}

func TestP10ToAndIs(t *testing.T) {
	for _, x := range []struct {
		value  []api.Ins
		class  string
		is, to bool
	}{
		{code(by(api.New, "Pup")), "Pup", true, true}, {code(by(api.New, "Pup")), "Dog", true, true}, {code(by(api.New, "Pup")), "Pet", true, true}, {code(by(api.New, "Pup")), "Object", true, true},
		{code(by(api.New, "Pup")), "Cat", false, false}, {code(by(api.New, "Dog")), "Pup", false, false}, {code(by(api.New, "Object")), "Pet", false, false}, {code(by(api.New, "Own")), "Throw", true, true}, {code(by(api.New, "Throw")), "Own", false, false}, {code(by(api.New, "Nil2")), "Nil", true, true},
		{code(do(api.Nought)), "Pet", false, true}, {code(do(api.Nought)), "Object", false, true}, {code(do(api.Nought)), "Nil", false, true},
		{code(do(api.Push), do(api.NewInts)), "Object", true, true}, {code(do(api.Push), do(api.NewInts)), "Pet", false, false}, {code(do(api.Push), by(api.NewRefs, "Pet")), "Object", true, true}, {code(do(api.Push), by(api.NewRefs, "Pet")), "Pet", false, false},
	} {
		answer := map[bool]int{true: 1, false: 0}[x.is]
		wantStack(t, show(x), append(slices.Clone(x.value), by(api.Is, x.class)), intWord(answer))
		c := append(slices.Clone(x.value), by(api.To, x.class))
		if !x.to {
			wantOver(t, show(x), 99, c, "Cast")
			continue
		}
		want := addressWord(9)
		if x.value[0].Op == api.Nought {
			want = nullWord
		}
		wantStack(t, show(x), c, want)
	}
}
