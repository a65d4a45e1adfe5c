package promises

import (
	"math"
	"math/rand"
	"slices"
	"strconv"
	"strings"
	"testing"

	"warden/api"
	"warden/warden"
)

// maker: makes methods of the class Me that are right more often than not.
type maker struct {
	*rand.Rand
	w        world
	class    string
	m        api.Method
	heights  []int // ahead of each instruction
	pending  []jump
	stack    []api.Type // as the maker believes
	locals   []api.Type
	isEnded  bool // nothing goes on behind the last instruction
	nameList []string
	callees  []string
	favored  []api.Ins // that are taken more often
}

// jump: forward, to a place that is not there so far.
type jump struct {
	at            int
	stack, locals []api.Type
}

func (r *maker) name() string { return r.nameList[r.Intn(len(r.nameList))] }

func (r *maker) anyType() api.Type {
	switch r.Intn(4) {
	case 0:
		return number
	case 1:
		return ints
	case 2:
		return refsOf(r.name())
	}
	return refTo(r.name())
}

func newMaker(seed int64) *maker {
	r := bareMaker(seed)
	r.begin("Me", r.head("m", r.anyType))
	r.w = worldOf(append(family(), classOf("Me", "Pet", r.m)))
	return r
}

// bareMaker: one that has no method so far.
func bareMaker(seed int64) *maker {
	r := &maker{Rand: rand.New(rand.NewSource(seed)), callees: strings.Fields("none num ref take arrays bark")}
	for _, c := range family() {
		r.nameList = append(r.nameList, c.Name)
	}
	r.nameList = append(r.nameList, "Me", "Object", "Throw", "Zero", "Nil", "Pet", "Pet", "Dog")
	return r
}

// head: a method without code, with params of such types.
func (r *maker) head(name string, param func() api.Type) api.Method {
	m := plainMethod(1+r.Intn(5), 0, nil)
	m.Name = name
	for range r.Intn(4) {
		m.Params = append(m.Params, param())
	}
	if r.Intn(3) > 0 {
		m.Ret = r.anyType()
	}
	m.Locals = 1 + len(m.Params) + r.Intn(4)
	return m
}

// begin: a class's method is the one to be made.
func (r *maker) begin(class string, m api.Method) {
	r.class, r.m, r.isEnded = class, m, false
	r.heights, r.pending, r.stack = nil, nil, nil
	r.locals = append(typeList(refTo(class)), m.Params...)
	r.locals = append(r.locals, make([]api.Type, m.Locals-len(r.locals))...)
}

// anyNumber: mostly a small one.
func (r *maker) anyNumber() int {
	if r.Intn(10) > 0 {
		return r.Intn(9) - 2
	}
	return []int{math.MinInt32, math.MinInt32 + 1, math.MaxInt32, 1 << 16, -1 << 16, 46341, 1<<30 + 7}[r.Intn(7)]
}

func (r *maker) anyInstruction() api.Ins {
	if len(r.favored) > 0 && r.Intn(5) == 0 {
		return r.favored[r.Intn(len(r.favored))]
	}
	i := do(r.Intn(32))
	switch i.Op {
	case api.Push:
		i.A = r.anyNumber()
	case api.Load, api.Store:
		i.A = r.Intn(r.m.Locals)
	case api.New, api.NewRefs, api.To, api.Is:
		i.Class = r.name()
	case api.Get, api.Put:
		i.Class, i.Member = r.name(), []string{"n", "r", "i", "s", "d", "k"}[r.Intn(6)]
	case api.Call:
		i.Class, i.Member = r.name(), r.callees[r.Intn(len(r.callees))]
	}
	return i
}

// goodInstruction: mostly one that fits.
func (r *maker) goodInstruction() api.Ins {
	for range 60 {
		i := r.anyInstruction()
		takes, puts := r.w.size(r.m, i)
		left := len(r.stack) - takes
		if !r.w.isThere(r.m, i) || left < 0 || left+puts > r.m.Stack {
			continue
		}
		if r.w.fits(r.m, i, r.stack[left:], r.locals) || r.Intn(80) == 0 {
			return i
		}
	}
	if len(r.stack) == r.m.Stack {
		return do(api.Pop)
	}
	return do(api.Push)
}

func (r *maker) add(i api.Ins) {
	at := len(r.m.Code)
	r.heights = append(r.heights, len(r.stack))
	takes, _ := r.w.size(r.m, i)
	rest, taken := r.stack[:len(r.stack)-takes], r.stack[len(r.stack)-takes:]
	stack := append(slices.Clone(rest), r.w.puts(i, taken, r.locals)...)
	if i.Op == api.Store {
		r.locals = slices.Clone(r.locals)
		r.locals[i.A] = taken[0]
	}
	r.stack = stack
	r.m.Code = append(r.m.Code, i)
	if isJump(i.Op) {
		r.aim(at)
	}
	r.isEnded = i.Op == api.Jump || i.Op == api.Return || i.Op == api.Throw
}

func isJump(op int) bool { return op >= api.Jump && op <= api.IfSame }

// aim: a jump goes back to where there were as many values, or forward.
func (r *maker) aim(at int) {
	if r.Intn(3) > 0 {
		r.pending = append(r.pending, jump{at, r.stack, r.locals})
		return
	}
	r.m.Code[at].A = r.placeOf(len(r.stack))
}

func (r *maker) placeOf(height int) int {
	var places []int
	for at, h := range r.heights {
		if h == height {
			places = append(places, at)
		}
	}
	if len(places) == 0 {
		return r.Intn(len(r.heights))
	}
	return places[r.Intn(len(places))]
}

// land: jumps whose stack is as high as here come here, now and then.
func (r *maker) land() {
	here := len(r.m.Code)
	r.pending = slices.DeleteFunc(r.pending, func(j jump) bool {
		if len(j.stack) != len(r.stack) || r.Intn(3) > 0 {
			return false
		}
		r.m.Code[j.at].A = here
		for k, t := range j.stack {
			r.stack[k] = r.w.join(t, r.stack[k])
		}
		r.locals = slices.Clone(r.locals)
		for k, t := range j.locals {
			r.locals[k] = r.w.join(t, r.locals[k])
		}
		return true
	})
}

// resume: behind an end the code goes on as a handler, or where a jump comes to; it tells whether there is one.
func (r *maker) resume() bool {
	here := len(r.m.Code)
	if len(r.pending) == 0 || r.Intn(4) == 0 {
		if len(r.m.Handlers) > 3 || r.m.Stack == 0 {
			return false
		}
		from := r.Intn(here)
		h := api.Handler{From: from, To: from + 1 + r.Intn(here-from), At: here, Class: []string{"Throw", "Own", "Zero", "Nil", "Nil2"}[r.Intn(5)]}
		r.m.Handlers = append(r.m.Handlers, h)
		r.stack = typeList(refTo(h.Class))
		r.locals = slices.Clone(r.locals)
		for k := 1 + len(r.m.Params); k < len(r.locals); k++ {
			r.locals[k] = nothing
		}
		return true
	}
	j := r.pending[0]
	r.pending = r.pending[1:]
	r.m.Code[j.at].A = here
	r.stack, r.locals = slices.Clone(j.stack), j.locals
	return true
}

func (r *maker) make() {
	for len(r.m.Code) < 50 {
		if r.isEnded && !r.resume() {
			break
		}
		r.isEnded = false
		r.land()
		r.add(r.goodInstruction())
	}
	if !r.isEnded {
		r.add(do(api.Jump))
	}
	for _, j := range r.pending {
		r.m.Code[j.at].A = r.placeOf(len(j.stack))
	}
	if r.Intn(4) == 0 {
		r.spoil()
	}
}

// spoil: one thing in the method becomes another.
func (r *maker) spoil() {
	at := r.Intn(len(r.m.Code))
	switch r.Intn(7) {
	case 0:
		r.m.Code[at] = r.anyInstruction()
	case 1:
		r.m.Code = slices.Delete(r.m.Code, at, at+1)
	case 2:
		r.m.Stack = max(0, r.m.Stack-1)
	case 3:
		r.m.Locals--
	case 4:
		r.m.Handlers = append(r.m.Handlers, api.Handler{From: r.Intn(9), To: r.Intn(60), At: r.Intn(60), Class: r.name()})
	case 5:
		r.m.Handlers = append(r.m.Handlers, api.Handler{From: at, To: len(r.m.Code), At: r.Intn(len(r.m.Code)), Class: "Nil"})
	case 6:
		if isJump(r.m.Code[at].Op) {
			r.m.Code[at].A = r.Intn(len(r.m.Code) + 1)
		}
	}
}

// TestP7AndP8Random: methods of all kinds get the answer that the model gives.
func TestP7AndP8Random(t *testing.T) {
	counts := map[api.Errno]int{}
	for seed := range int64(6000) {
		r := newMaker(seed)
		r.make()
		files := withFamily(t, r.m)
		want, at, frames := r.w.check("Me", r.m)
		counts[want]++
		place := api.Place{}
		if want != api.OK {
			place = api.Place{File: mine, At: at}
		}
		p := wantAnswer(t, "seed "+strconv.Itoa(int(seed)), files, true, want, place)
		if p != nil && want == api.OK {
			wantTyping(t, "seed "+strconv.Itoa(int(seed)), p, "m", frames)
		}
		if t.Failed() {
			t.Fatalf("%+v", r.m)
		}
	}
	for _, e := range []api.Errno{api.OK, api.ErrCode, api.ErrStack, api.ErrKind} {
		if counts[e] < 100 {
			t.Errorf("of the methods but %d have the answer %d", counts[e], e)
		}
	}
}

func wantTyping(t *testing.T, what string, p *warden.Program, method string, want []api.Frame) {
	t.Helper()
	got, e := p.Typing("Me", method)
	if e != api.OK || len(got) != len(want) {
		t.Fatalf("%s: Typing = %d frames, %d, want %d", what, len(got), e, len(want))
	}
	for at, f := range want {
		if f.Reached {
			wantFrame(t, what, got[at], at, f.Types, f.Vars)
		} else {
			wantUnreached(t, what, got[at], at)
		}
	}
}
