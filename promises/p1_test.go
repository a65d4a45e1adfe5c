package promises

import (
	"math"
	"strings"
	"testing"

	"warden/api"
	"warden/warden"
)

// TestP1OddArguments: what is of no use at all is answered too.
func TestP1OddArguments(t *testing.T) {
	wantNoFile(t, "an empty class", api.Class{}, api.ErrValue)
	wantNoFile(t, "empty lists", api.Class{Fields: []api.Field{}, Methods: []api.Method{}}, api.ErrValue)
	wild := api.Ins{Op: math.MinInt, A: math.MaxInt, Class: strings.Repeat("\xff", 300), Member: "\x00"}
	m := api.Method{Name: "m", Stack: math.MinInt, Locals: math.MaxInt, Code: filled(70000, wild), Handlers: filled(300, api.Handler{From: math.MinInt, To: math.MaxInt, At: -1})}
	wantNoFile(t, "a wild class", api.Class{Name: "A", Super: "A", Methods: filled(300, m)}, api.ErrValue)
	wantNoFile(t, "much code", api.Class{Name: "A", Super: "A", Methods: filled(60, pops(60000).Methods[0])}, api.ErrLong)
	for b := range 256 {
		wantFault(t, "W1"+strings.Repeat(bytesOf(b), 3000), api.ErrLong, 0)
		for _, n := range []int{1, 2, 3, 20, 2000} {
			wantBack(t, "W1"+strings.Repeat(bytesOf(b), n))
		}
	}
}

// TestP1NothingBesideErrors: no half of a class, or of a file, comes with an error.
func TestP1NothingBesideErrors(t *testing.T) {
	file := fileOf(sampleParts())
	for _, f := range []string{file[:len(file)-1], file + "x", changed(file, len(file)-6, 5), changed(file, 0, 'V')} {
		if d, e, _ := warden.Decode(f); e == api.OK || !sameClass(d, api.Class{}) {
			t.Errorf("Decode = %s, %d", show(d), e)
		}
	}
	c := sample()
	c.Methods[1].Name = ""
	wantNoFile(t, "the last name is none", c, api.ErrValue)
	wantNoFile(t, "too long", pops(3000), api.ErrLong)
}

// TestP1OtherFields: what an instruction or a type does not need is 0 or empty.
func TestP1OtherFields(t *testing.T) {
	d, e, _ := warden.Decode(fileOf(sampleParts()))
	if e != api.OK || len(d.Methods) != 2 || len(d.Methods[0].Code) != len(sampleCode()) {
		t.Fatalf("Decode = %s, %d", show(d), e)
	}
	for i, c := range sampleCode() {
		if got := d.Methods[0].Code[i]; got != c.ins {
			t.Errorf("instruction %d = %v, want %v", i, got, c.ins)
		}
	}
	for i, f := range sample().Fields {
		if d.Fields[i] != f {
			t.Errorf("field %d = %v, want %v", i, d.Fields[i], f)
		}
	}
}

// TestP1OddFiles: Load answers whatever the files are, and nothing but the error and its place beside an error.
func TestP1OddFiles(t *testing.T) {
	long := strings.Repeat("W1", 1<<20)
	wantAnswer(t, "no list", nil, true, api.OK, api.Place{})
	wantAnswer(t, "an empty list", []string{}, false, api.OK, api.Place{})
	wantAnswer(t, "long files", filled(12, long), true, api.ErrLong, api.Place{})
	wantAnswer(t, "many long files", filled(5000, long), true, api.ErrArg, api.Place{})
	for b := range 256 {
		for _, n := range []int{1, 3, 20, 2000} {
			file := "W1" + strings.Repeat(bytesOf(b), n)
			_, e, at := warden.Decode(file)
			if e != api.OK {
				wantAnswer(t, "bytes that are alike", []string{"W1\x02\x01A\x06Object\x00\x01\x00\x00", file}, true, e, api.Place{File: 1, At: at})
			}
		}
	}
}

// TestP1ChangedFiles: each byte of a file as any other, checked: a program or an error, and never both.
func TestP1ChangedFiles(t *testing.T) {
	m := plainMethod(2, 3, code(do(api.Push), do(api.IfZero, 3), do(api.Return), by(api.New, "Me"), do(api.Store, 1), do(api.Load, 1), by(api.Get, "Me", "n"), do(api.Print), do(api.Return), do(api.Throw)), handlerTo(0, 9, 9, "Own"))
	files := withFamily(t, m)
	file := files[mine]
	for at := range file {
		for b := range 256 {
			files[mine] = changed(file, at, b)
			p, e, place := warden.Load(files, true)
			if (p != nil) != (e == api.OK) || e == api.OK && place != (api.Place{}) || e > api.ErrKind {
				t.Errorf("%q: %v, %d, %+v", files[mine], p, e, place)
			}
			if p == nil {
				continue
			}
			if f, e := p.Typing("Me", "m"); (len(f) == 0) != (e == api.ErrEntry) {
				t.Errorf("%q: Typing = %v, %d", files[mine], f, e)
			}
		}
	}
}

func TestP1OddTypings(t *testing.T) {
	p := wantAnswer(t, "the family", withFamily(t), true, api.OK, api.Place{})
	for _, name := range []string{"", "\x00", "None", "Object", "Zero", "Pet\x00", strings.Repeat("Pet", 1<<20)} {
		for _, x := range [][2]string{{name, "num"}, {"Pet", name}, {name, name}} {
			if f, e := p.Typing(x[0], x[1]); f != nil || e != api.ErrEntry {
				t.Errorf("Typing(%.20q) = %v, %d", x, f, e)
			}
		}
	}
}

func TestP1OddStarts(t *testing.T) {
	long := strings.Repeat("Pet", 1<<20)
	for _, checked := range []bool{false, true} {
		p := wantAnswer(t, "the family", withFamily(t), checked, api.OK, api.Place{})
		for _, fast := range []bool{false, true} {
			for _, class := range []string{"", "\x00", "Object", "Pet\x00", long, "Pet", "Me"} {
				for _, method := range []string{"", "\xff", "Pet", long, "num"} {
					for _, args := range [][]int{nil, {}, {math.MinInt, math.MaxInt}, make([]int, 1<<16)} {
						for _, heap := range []int{math.MinInt, -1, 0, 2000, math.MaxInt} {
							r, e := p.Start(fast, class, method, args, heap)
							isGood := (class == "Pet" || class == "Me") && method == "num" && len(args) == 0 && (heap == 0 || heap == 2000) && (checked || !fast)
							if isGood != (e == api.OK) || isGood != (r != nil) {
								t.Errorf("Start(%v, %.20q, %.20q, %.20s, %d) = %v, %d", fast, class, method, show(args), heap, r != nil, e)
							}
						}
					}
				}
			}
		}
	}
}

// TestP1ChangedRuns: each byte of a file as any other, unchecked: what it does, whatever that is, is what the model does.
func TestP1ChangedRuns(t *testing.T) {
	c := code(do(api.Push, 2), do(api.NewInts), do(api.Store, 2), do(api.Load), do(api.Load, 1), by(api.Call, "Pet", "take"), do(api.Pop), do(api.Load, 1), do(api.IfZero, 12), by(api.New, "Me"), by(api.Get, "Me", "n"), do(api.Print), do(api.Load, 2), do(api.Push), do(api.Push, 5), do(api.PutInt), do(api.Nought), do(api.Throw), do(api.Pop), do(api.Push, 1), do(api.Return))
	m := plainMethod(3, 3, c, handlerTo(5, 6, 16, "Nil"), handlerTo(0, 18, 18, "Throw"))
	m.Params, m.Ret = typeList(number), number
	files := withFamily(t, m)
	file := files[mine]
	for at := range file {
		for b := range 256 {
			files[mine] = changed(file, at, b)
			p, e, _ := warden.Load(files, false)
			if e != api.OK {
				continue
			}
			class, _, _ := warden.Decode(files[mine])
			for _, m := range class.Methods {
				r, e := p.Start(false, class.Name, m.Name, make([]int, len(m.Params)), 20)
				if e == api.OK {
					model := worldOf(append(family(), class)).start(class.Name, m.Name, make([]int, len(m.Params)), 20)
					wantSteps(t, show(files[mine]), r, model, 60)
				}
			}
		}
	}
}
