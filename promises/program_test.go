package promises

import (
	"strings"
	"testing"

	"warden/api"
	"warden/warden"
)

var (
	nothing = api.Type{}
	number  = api.Type{Kind: api.Int}
	null    = api.Type{Kind: api.Null}
	ints    = api.Type{Kind: api.Ints}
)

func refTo(class string) api.Type  { return api.Type{Kind: api.Ref, Name: class} }
func refsOf(class string) api.Type { return api.Type{Kind: api.Refs, Name: class} }

// builtIns: the names of the classes that are built in.
func builtIns() []string { return strings.Fields("Object Throw Nil Index Size Cast Zero Memory Depth") }

// do: an instruction, with its A.
func do(op int, a ...int) api.Ins {
	i := api.Ins{Op: op}
	if len(a) > 0 {
		i.A = a[0]
	}
	return i
}

// by: an instruction, with its class, and its member.
func by(op int, names ...string) api.Ins {
	i := api.Ins{Op: op, Class: names[0]}
	if len(names) > 1 {
		i.Member = names[1]
	}
	return i
}

func code(list ...api.Ins) []api.Ins { return list }

// times: n instructions that are alike.
func times(n int, i api.Ins) []api.Ins { return filled(n, i) }

func after(lists ...[]api.Ins) []api.Ins {
	var all []api.Ins
	for _, l := range lists {
		all = append(all, l...)
	}
	return all
}

// plainMethod: one without params that tells nothing.
func plainMethod(stack, locals int, c []api.Ins, handlers ...api.Handler) api.Method {
	return api.Method{Name: "m", Stack: stack, Locals: locals, Code: c, Handlers: handlers}
}

func classOf(name, super string, methods ...api.Method) api.Class {
	return api.Class{Name: name, Super: super, Methods: methods}
}

func withFields(c api.Class, fields ...api.Field) api.Class {
	c.Fields = fields
	return c
}

func field(name string, t api.Type) api.Field { return api.Field{Name: name, Type: t} }

// filesOf: the files of classes.
func filesOf(t *testing.T, classes ...api.Class) []string {
	t.Helper()
	var files []string
	for _, c := range classes {
		s, e := warden.Encode(c)
		if e != api.OK {
			t.Fatalf("Encode(%s) = %d", show(c), e)
		}
		files = append(files, s)
	}
	return files
}

// wantAnswer asks for that answer of Load, and a program just where it is OK.
func wantAnswer(t *testing.T, what string, files []string, checked bool, want api.Errno, place api.Place) *warden.Program {
	t.Helper()
	p, e, at := warden.Load(files, checked)
	if e != want || at != place || (p != nil) != (e == api.OK) {
		t.Errorf("%s: Load = program: %v, %d, %+v, want %d, %+v", what, p != nil, e, at, want, place)
	}
	return p
}

// family: classes that there are in what is checked: Pet has fields and methods, and Dog and Cat are below it.
func family() []api.Class {
	just := func(name string, ret api.Type, params ...api.Type) api.Method {
		c := code(do(api.Return))
		if ret == number {
			c = code(do(api.Push), do(api.Return))
		} else if ret != nothing {
			c = code(do(api.Nought), do(api.Return))
		}
		return api.Method{Name: name, Params: params, Ret: ret, Stack: 1, Locals: 1 + len(params), Code: c}
	}
	pet := classOf("Pet", "Object",
		just("none", nothing), just("num", number), just("ref", refTo("Dog")),
		just("take", ints, number, refTo("Pet")), just("arrays", refsOf("Pet"), ints, refsOf("Dog")))
	return []api.Class{
		classOf("Pup", "Dog"),
		withFields(pet, field("n", number), field("r", refTo("Pet")), field("i", ints), field("s", refsOf("Dog"))),
		withFields(classOf("Dog", "Pet", just("bark", number)), field("d", refTo("Dog"))),
		classOf("Cat", "Pet"), classOf("Own", "Throw"), classOf("Nil2", "Nil"),
	}
}

// mine: the number of the file that withFamily lays behind the family.
const mine = 6

// withFamily: the files of the family, and behind them one of the class Me, below Pet, with these methods.
func withFamily(t *testing.T, methods ...api.Method) []string {
	t.Helper()
	return filesOf(t, append(family(), classOf("Me", "Pet", methods...))...)
}

// wantChecked asks for that error of the class Me's one method, at that place.
func wantChecked(t *testing.T, what string, m api.Method, want api.Errno, at int) *warden.Program {
	t.Helper()
	files := withFamily(t, m)
	wantAnswer(t, what+", unchecked", files, false, api.OK, api.Place{})
	place := api.Place{}
	if want != api.OK {
		place = api.Place{File: mine, At: at}
	}
	return wantAnswer(t, what, files, true, want, place)
}

// typingOf: the typing of a method of the class Me, which is to be without an error.
func typingOf(t *testing.T, what string, m api.Method) []api.Frame {
	t.Helper()
	p := wantChecked(t, what, m, api.OK, 0)
	if p == nil {
		t.FailNow()
	}
	f, e := p.Typing("Me", m.Name)
	if e != api.OK || len(f) != len(m.Code) {
		t.Fatalf("%s: Typing = %d frames, %d, want %d", what, len(f), e, len(m.Code))
	}
	return f
}

// wantFrame asks for a frame that is reached, with just that in it.
func wantFrame(t *testing.T, what string, f api.Frame, at int, stack, locals []api.Type) {
	t.Helper()
	if f.At != at || !f.Reached || !sameList(f.Types, stack) || !sameList(f.Vars, locals) || !isTypingFrame(f) {
		t.Errorf("%s: frame %+v, want %d: %v, %v", what, f, at, stack, locals)
	}
}

// wantUnreached asks for a frame of a place that is not reached.
func wantUnreached(t *testing.T, what string, f api.Frame, at int) {
	t.Helper()
	if f.At != at || f.Reached || len(f.Types)+len(f.Vars) != 0 || !isTypingFrame(f) {
		t.Errorf("%s: frame %+v, want %d, not reached", what, f, at)
	}
}

// isTypingFrame: it has nothing that a frame of a state has.
func isTypingFrame(f api.Frame) bool {
	return f.Class == "" && f.Method == "" && len(f.Stack)+len(f.Locals) == 0
}

func typeList(list ...api.Type) []api.Type { return list }
