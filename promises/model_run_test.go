package promises

import (
	"slices"

	"warden/api"
)

// modelRun: a run as the document tells it, as plainly as can be: a careful one, of which the tags are left out in what is told of a fast one.
type modelRun struct {
	w       world
	isFast  bool
	frames  []api.Frame
	heap    []api.Thing
	room    int // that is left
	outcome api.Outcome
	thrown  map[string]int // of each class, how often a thing of it was thrown
}

var (
	noWord   = api.Word{}
	nullWord = api.Word{Tag: api.NullWord}
)

func intWord(n int) api.Word         { return api.Word{Tag: api.IntWord, V: n} }
func addressWord(n int) api.Word     { return api.Word{Tag: api.AddrWord, V: n} }
func words(w ...api.Word) []api.Word { return w }

func (w world) start(class, method string, args []int, heap int) *modelRun {
	r := &modelRun{w: w, room: heap, thrown: map[string]int{}}
	for _, name := range builtIns()[2:] {
		r.lay(r.object(name))
	}
	given := words(r.lay(r.object(class)))
	for _, a := range args {
		given = append(given, intWord(a))
	}
	r.enter(class, method, given)
	return r
}

func (w world) fields(class string) []api.Field {
	if class == "" {
		return nil
	}
	return append(w.fields(w[class].Super), w[class].Fields...)
}

func (r *modelRun) object(class string) api.Thing {
	object := api.Thing{Kind: api.Ref, Class: class}
	for _, f := range r.w.fields(class) {
		object.Words = append(object.Words, map[bool]api.Word{true: intWord(0), false: nullWord}[f.Type == number])
	}
	return object
}

func (r *modelRun) lay(x api.Thing) api.Word {
	r.heap = append(r.heap, x)
	return addressWord(len(r.heap))
}

func (w world) owner(class, method string) string {
	for !slices.ContainsFunc(w[class].Methods, func(m api.Method) bool { return m.Name == method }) {
		class = w[class].Super
	}
	return class
}

func (r *modelRun) enter(class, method string, given []api.Word) {
	m, _ := r.w.method(class, method)
	locals := slices.Clone(given)
	for len(locals) < m.Locals {
		locals = append(locals, noWord)
	}
	r.frames = append(r.frames, api.Frame{Class: r.w.owner(class, method), Method: method, Locals: locals})
}

func (r *modelRun) last() *api.Frame { return &r.frames[len(r.frames)-1] }

func (r *modelRun) typeOf(x api.Word) api.Type {
	switch x.Tag {
	case api.IntWord:
		return number
	case api.NullWord:
		return null
	case api.AddrWord:
		return api.Type{Kind: r.heap[x.V-1].Kind, Name: r.heap[x.V-1].Class}
	}
	return nothing
}

func (r *modelRun) typesOf(list []api.Word) []api.Type {
	var types []api.Type
	for _, x := range list {
		types = append(types, r.typeOf(x))
	}
	return types
}

func (r *modelRun) isStuck(f *api.Frame, m api.Method) bool {
	if f.At >= len(m.Code) {
		return true
	}
	i := m.Code[f.At]
	if !r.w.isThere(m, i) {
		return true
	}
	takes, puts := r.w.size(m, i)
	left := len(f.Stack) - takes
	isEnd := i.Op == api.Return || i.Op == api.Throw
	if left < 0 || !isEnd && left+puts > m.Stack {
		return true
	}
	return !r.w.fits(m, i, r.typesOf(f.Stack[left:]), r.typesOf(f.Locals))
}

// step: n of them, as far as there are so many.
func (r *modelRun) step(n int) int {
	before := r.outcome.Steps
	for ; n > 0 && r.outcome.Kind == api.Going; n-- {
		f := r.last()
		m, _ := r.w.method(f.Class, f.Method)
		if r.isStuck(f, m) {
			r.outcome.Kind = api.Stuck
			break
		}
		r.outcome.Steps++
		i := m.Code[f.At]
		takes, _ := r.w.size(m, i)
		left := len(f.Stack) - takes
		r.do(f, i, f.Stack[:left], slices.Clone(f.Stack[left:]))
	}
	return r.outcome.Steps - before
}

// do: rest is what the instruction leaves on the stack, x what it takes.
func (r *modelRun) do(f *api.Frame, i api.Ins, rest, x []api.Word) {
	if name := r.early(i, x); name != "" {
		r.throw(1 + slices.Index(builtIns()[2:], name))
		return
	}
	switch i.Op {
	case api.Throw:
		r.throw(x[0].V)
	case api.Call:
		f.Stack = rest
		r.enter(r.typeOf(x[0]).Name, i.Member, x)
	case api.Return:
		r.frames = r.frames[:len(r.frames)-1]
		if len(r.frames) == 0 {
			r.finish(x)
			return
		}
		r.last().At++
		r.last().Stack = slices.Concat(r.last().Stack, x)
	default:
		f.At = r.next(i, f.At, x)
		f.Stack = slices.Concat(rest, r.puts(f, i, x))
	}
}

// early: the class of what the instruction throws of itself.
func (r *modelRun) early(i api.Ins, x []api.Word) string {
	switch i.Op {
	case api.Div, api.Rem:
		if x[1].V == 0 {
			return "Zero"
		}
	case api.Get, api.Put, api.Call, api.Length, api.GetInt, api.PutInt, api.GetRef, api.PutRef, api.Throw:
		if x[0] == nullWord {
			return "Nil"
		}
	case api.New:
		return r.takeRoom(len(r.w.fields(i.Class)))
	case api.NewInts, api.NewRefs:
		if x[0].V < 0 {
			return "Size"
		}
		return r.takeRoom(x[0].V)
	case api.To:
		if x[0] != nullWord && !r.w.under(r.typeOf(x[0]), refTo(i.Class)) {
			return "Cast"
		}
	}
	switch i.Op {
	case api.Call:
		if len(r.frames) == 20 {
			return "Depth"
		}
	case api.GetInt, api.PutInt, api.GetRef, api.PutRef:
		if x[1].V < 0 || x[1].V >= len(r.heap[x[0].V-1].Words) {
			return "Index"
		}
	}
	return ""
}

func (r *modelRun) takeRoom(n int) string {
	if 1+n > r.room {
		return "Memory"
	}
	r.room -= 1 + n
	return ""
}

func (r *modelRun) next(i api.Ins, at int, x []api.Word) int {
	isMade := i.Op == api.Jump ||
		i.Op == api.IfZero && x[0].V == 0 ||
		i.Op == api.IfLess && x[0].V < x[1].V ||
		i.Op == api.IfSame && x[0] == x[1]
	if isMade {
		return i.A
	}
	return at + 1
}

// wrapped: in 32 bits.
func wrapped(n int) api.Word {
	const all = 1 << 32
	n = (n%all + all) % all
	if n >= all/2 {
		n -= all
	}
	return intWord(n)
}

// puts: what is put on the stack by an instruction that throws nothing; what it does else is done.
func (r *modelRun) puts(f *api.Frame, i api.Ins, x []api.Word) []api.Word {
	switch i.Op {
	case api.Push:
		return words(intWord(i.A))
	case api.Nought:
		return words(nullWord)
	case api.Load:
		return words(f.Locals[i.A])
	case api.Store:
		f.Locals[i.A] = x[0]
	case api.Dup:
		return words(x[0], x[0])
	case api.Swap:
		return words(x[1], x[0])
	case api.Add:
		return words(wrapped(x[0].V + x[1].V))
	case api.Sub:
		return words(wrapped(x[0].V - x[1].V))
	case api.Mul:
		return words(wrapped(x[0].V * x[1].V))
	case api.Div:
		return words(wrapped(x[0].V / x[1].V))
	case api.Rem:
		return words(wrapped(x[0].V % x[1].V))
	case api.New:
		return words(r.lay(r.object(i.Class)))
	case api.NewInts:
		return words(r.lay(api.Thing{Kind: api.Ints, Words: filled(x[0].V, intWord(0))}))
	case api.NewRefs:
		return words(r.lay(api.Thing{Kind: api.Refs, Class: i.Class, Words: filled(x[0].V, nullWord)}))
	case api.Get:
		return words(*r.fieldOf(x[0], i.Member))
	case api.Put:
		*r.fieldOf(x[0], i.Member) = x[1]
	case api.Length:
		return words(intWord(len(r.heap[x[0].V-1].Words)))
	case api.GetInt, api.GetRef:
		return words(r.heap[x[0].V-1].Words[x[1].V])
	case api.PutInt, api.PutRef:
		r.heap[x[0].V-1].Words[x[1].V] = x[2]
	case api.To:
		return x
	case api.Is:
		if x[0] != nullWord && r.w.under(r.typeOf(x[0]), refTo(i.Class)) {
			return words(intWord(1))
		}
		return words(intWord(0))
	case api.Print:
		r.outcome.Out = append(r.outcome.Out, x[0].V)
	}
	return nil
}

func (r *modelRun) fieldOf(x api.Word, name string) *api.Word {
	object := r.heap[x.V-1]
	return &object.Words[slices.IndexFunc(r.w.fields(object.Class), func(f api.Field) bool { return f.Name == name })]
}

func (r *modelRun) throw(address int) {
	class := r.heap[address-1].Class
	r.thrown[class]++
	for ; len(r.frames) > 0; r.frames = r.frames[:len(r.frames)-1] {
		f := r.last()
		m, _ := r.w.method(f.Class, f.Method)
		for _, h := range m.Handlers {
			if h.From <= f.At && f.At < h.To && r.w.below(class, h.Class) {
				f.At, f.Stack = h.At, words(addressWord(address))
				return
			}
		}
	}
	r.outcome.Kind, r.outcome.Class = api.Over, class
}

func (r *modelRun) finish(value []api.Word) {
	r.outcome.Kind = api.Done
	for _, x := range value {
		switch t := r.typeOf(x); t.Kind {
		case api.Int:
			r.outcome.Value = x.V
		case api.Ref:
			r.outcome.Class = t.Name
		}
	}
}

func (r *modelRun) state() api.State {
	s := api.State{Frames: r.frames, Heap: r.heap}
	if r.isFast {
		return bare(s)
	}
	return s
}

// as: the model of a fast run, or of a careful one.
func (r *modelRun) as(fast bool) *modelRun {
	r.isFast = fast
	return r
}

// bare: the state without tags.
func bare(s api.State) api.State {
	b := api.State{Frames: slices.Clone(s.Frames), Heap: slices.Clone(s.Heap)}
	for k := range b.Frames {
		f := &b.Frames[k]
		f.Stack, f.Locals = bareWords(f.Stack), bareWords(f.Locals)
	}
	for k := range b.Heap {
		b.Heap[k].Words = bareWords(b.Heap[k].Words)
	}
	return b
}

func bareWords(list []api.Word) []api.Word {
	list = slices.Clone(list)
	for k := range list {
		list[k].Tag = api.NoWord
	}
	return list
}
