package promises

import (
	"math"
	"strings"
	"testing"

	"warden/api"
	"warden/warden"
)

// TestP1OddArguments: what is of no use at all is answered too.
func TestP1OddArguments(t *testing.T) {
	wantNoFile(t, "an empty class", api.Class{}, api.ErrValue)
	wantNoFile(t, "empty lists", api.Class{Fields: []api.Field{}, Methods: []api.Method{}}, api.ErrValue)
	wild := api.Ins{Op: math.MinInt, A: math.MaxInt, Class: strings.Repeat("\xff", 300), Member: "\x00"}
	m := api.Method{Name: "m", Stack: math.MinInt, Locals: math.MaxInt, Code: filled(70000, wild), Handlers: filled(300, api.Handler{From: math.MinInt, To: math.MaxInt, At: -1})}
	wantNoFile(t, "a wild class", api.Class{Name: "A", Super: "A", Methods: filled(300, m)}, api.ErrValue)
	wantNoFile(t, "much code", api.Class{Name: "A", Super: "A", Methods: filled(60, pops(60000).Methods[0])}, api.ErrLong)
	for b := range 256 {
		wantFault(t, "W1"+strings.Repeat(bytesOf(b), 3000), api.ErrLong, 0)
		for _, n := range []int{1, 2, 3, 20, 2000} {
			wantBack(t, "W1"+strings.Repeat(bytesOf(b), n))
		}
	}
}

// TestP1NothingBesideErrors: no half of a class, or of a file, comes with an error.
func TestP1NothingBesideErrors(t *testing.T) {
	file := fileOf(sampleParts())
	for _, f := range []string{file[:len(file)-1], file + "x", changed(file, len(file)-6, 5), changed(file, 0, 'V')} {
		if d, e, _ := warden.Decode(f); e == api.OK || !sameClass(d, api.Class{}) {
			t.Errorf("Decode = %s, %d", show(d), e)
		}
	}
	c := sample()
	c.Methods[1].Name = ""
	wantNoFile(t, "the last name is none", c, api.ErrValue)
	wantNoFile(t, "too long", pops(3000), api.ErrLong)
}

// TestP1OtherFields: what an instruction or a type does not need is 0 or empty.
func TestP1OtherFields(t *testing.T) {
	d, e, _ := warden.Decode(fileOf(sampleParts()))
	if e != api.OK || len(d.Methods) != 2 || len(d.Methods[0].Code) != len(sampleCode()) {
		t.Fatalf("Decode = %s, %d", show(d), e)
	}
	for i, c := range sampleCode() {
		if got := d.Methods[0].Code[i]; got != c.ins {
			t.Errorf("instruction %d = %v, want %v", i, got, c.ins)
		}
	}
	for i, f := range sample().Fields {
		if d.Fields[i] != f {
			t.Errorf("field %d = %v, want %v", i, d.Fields[i], f)
		}
	}
}
