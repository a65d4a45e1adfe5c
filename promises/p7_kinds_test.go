package promises

import (
	"slices"
	"strings"
	"testing"

	"warden/api"
)

// kinds: the types that the tests put on the stack, by short names.
var kinds = map[string]api.Type{
	"None": nothing, "Int": number, "Null": null, "Ints": ints, "Pets": refsOf("Pet"), "Dogs": refsOf("Dog"),
	"Pet": refTo("Pet"), "Dog": refTo("Dog"), "Pup": refTo("Pup"), "Cat": refTo("Cat"), "Me": refTo("Me"),
	"Object": refTo("Object"), "Throw": refTo("Throw"), "Own": refTo("Own"),
}

// Lists of kinds: what is under one type.
const (
	anyKind    = "None Int Null Ints Pets Dogs Pet Dog Pup Cat Me Object Throw Own"
	objectKind = "Null Ints Pets Dogs Pet Dog Pup Cat Me Object Throw Own"
	petKind    = "Null Pet Dog Pup Cat Me"
	dogKind    = "Null Dog Pup"
	pupKind    = "Null Pup"
	throwKind  = "Null Throw Own"
)

// valueOf: code at a place that puts a value of a type on the stack, with room for no more than that.
func valueOf(t api.Type, at int) []api.Ins {
	switch t.Kind {
	case api.None:
		return code(do(api.Push), do(api.IfZero, at+4), do(api.Push), do(api.Jump, at+5), do(api.Nought))
	case api.Int:
		return code(do(api.Push))
	case api.Null:
		return code(do(api.Nought))
	case api.Ints:
		return code(do(api.Push), do(api.NewInts))
	case api.Refs:
		return code(do(api.Push), by(api.NewRefs, t.Name))
	}
	return code(by(api.New, t.Name))
}

// kindRow: an instruction, of which kinds each value that it takes may be, and of which kinds those are that it puts (0: that of the deepest taken, 1: of the next one).
type kindRow struct {
	ins   api.Ins
	takes []string
	puts  string
}

func kindRows() []kindRow {
	of := func(l ...string) []string { return l }
	rows := []kindRow{
		{do(api.Store, 1), of(strings.Replace(anyKind, "None ", "", 1)), ""}, {do(api.Pop), of(anyKind), ""}, {do(api.Dup), of(anyKind), "0 0"}, {do(api.Swap), of(anyKind, anyKind), "1 0"},
		{do(api.IfZero), of("Int"), ""}, {do(api.IfLess), of("Int", "Int"), ""}, {do(api.IfSame), of(objectKind, objectKind), ""},
		{by(api.Get, "Pet", "n"), of(petKind), "Int"}, {by(api.Get, "Dog", "r"), of(dogKind), "Pet"}, {by(api.Get, "Dog", "d"), of(dogKind), "Dog"}, {by(api.Get, "Pup", "s"), of(pupKind), "Dogs"}, {by(api.Get, "Pet", "i"), of(petKind), "Ints"},
		{by(api.Put, "Pet", "n"), of(petKind, "Int"), ""}, {by(api.Put, "Pet", "r"), of(petKind, petKind), ""}, {by(api.Put, "Dog", "d"), of(dogKind, dogKind), ""}, {by(api.Put, "Pup", "i"), of(pupKind, "Null Ints"), ""}, {by(api.Put, "Me", "s"), of("Null Me", "Null Dogs"), ""},
		{by(api.Call, "Pet", "none"), of(petKind), ""}, {by(api.Call, "Pup", "num"), of(pupKind), "Int"}, {by(api.Call, "Dog", "bark"), of(dogKind), "Int"}, {by(api.Call, "Cat", "ref"), of("Null Cat"), "Dog"},
		{by(api.Call, "Pet", "take"), of(petKind, "Int", petKind), "Ints"}, {by(api.Call, "Dog", "arrays"), of(dogKind, "Null Ints", "Null Dogs"), "Pets"},
		{do(api.NewInts), of("Int"), "Ints"}, {by(api.NewRefs, "Pet"), of("Int"), "Pets"}, {do(api.Length), of("Ints Pets Dogs Null"), "Int"},
		{do(api.GetInt), of("Null Ints", "Int"), "Int"}, {do(api.PutInt), of("Null Ints", "Int", "Int"), ""},
		{do(api.GetRef), of("Pets", "Int"), "Pet"}, {do(api.GetRef), of("Dogs", "Int"), "Dog"}, {do(api.GetRef), of("Null", "Int"), "Null"},
		{do(api.PutRef), of("Pets", "Int", petKind), ""}, {do(api.PutRef), of("Dogs", "Int", dogKind), ""}, {do(api.PutRef), of("Null", "Int", objectKind), ""},
		{by(api.To, "Dog"), of(objectKind), "Dog"}, {by(api.To, "Object"), of(objectKind), "Object"}, {by(api.Is, "Own"), of(objectKind), "Int"},
		{do(api.Throw), of(throwKind), ""}, {do(api.Print), of("Int"), ""},
	}
	for _, op := range []int{api.Add, api.Sub, api.Mul, api.Div, api.Rem} {
		rows = append(rows, kindRow{do(op), of("Int", "Int"), "Int"})
	}
	return rows
}

// kindsTaken: all lists of so many kinds.
func kindsTaken(n int) [][]string {
	lists := [][]string{nil}
	for range n {
		var longer [][]string
		for _, l := range lists {
			for _, k := range strings.Fields(anyKind) {
				longer = append(longer, append(slices.Clone(l), k))
			}
		}
		lists = longer
	}
	return lists
}

// rowFor: the row that takes these kinds, if one of those of the instruction does.
func rowFor(i api.Ins, taken []string) (kindRow, bool) {
	for _, row := range kindRows() {
		if row.ins != i {
			continue
		}
		fits := true
		for k, list := range row.takes {
			fits = fits && slices.Contains(strings.Fields(list), taken[k])
		}
		if fits {
			return row, true
		}
	}
	return kindRow{}, false
}

func kindsPut(row kindRow, taken []string) []api.Type {
	var list []api.Type
	for _, name := range strings.Fields(row.puts) {
		switch name {
		case "0":
			name = taken[0]
		case "1":
			name = taken[1]
		}
		list = append(list, kinds[name])
	}
	return list
}

// TestP7KindOfOps: each instruction with values of all kinds; and, where it fits, what P8 tells behind it, with something deeper on the stack.
func TestP7KindOfOps(t *testing.T) {
	asked := map[api.Ins]int{}
	for _, row := range kindRows() {
		if asked[row.ins]++; asked[row.ins] > 1 {
			continue
		}
		for _, taken := range kindsTaken(len(row.takes)) {
			c := code(do(api.Push))
			for _, k := range taken {
				c = append(c, valueOf(kinds[k], len(c))...)
			}
			i, at := row.ins, len(c)
			if isJump(i.Op) {
				i.A = at + 1
			}
			what := show(row.ins) + " of " + strings.Join(taken, ", ")
			m := plainMethod(5, 2, append(c, i, do(api.Return)))
			fitting, fits := rowFor(row.ins, taken)
			if !fits {
				wantChecked(t, what, m, api.ErrKind, at)
				continue
			}
			f := typingOf(t, what, m)[at+1]
			locals := typeList(refTo("Me"), nothing)
			if i.Op == api.Store {
				locals[1] = kinds[taken[0]]
			}
			if i.Op == api.Throw {
				wantUnreached(t, what, f, at+1)
			} else {
				wantFrame(t, what, f, at+1, append(typeList(number), kindsPut(fitting, taken)...), locals)
			}
		}
	}
}

func TestP7KindOfReturn(t *testing.T) {
	for ret, under := range map[string]string{
		"None": anyKind, "Int": "Int", "Ints": "Null Ints", "Pets": "Null Pets", "Dogs": "Null Dogs", "Object": objectKind,
		"Pet": petKind, "Dog": dogKind, "Cat": "Null Cat", "Throw": throwKind,
	} {
		for _, k := range strings.Fields(anyKind) {
			c := append(valueOf(kinds[k], 0), do(api.Return))
			m := plainMethod(1, 1, c)
			m.Ret = kinds[ret]
			want, at := api.OK, 0
			if !slices.Contains(strings.Fields(under), k) {
				want, at = api.ErrKind, len(c)-1
			}
			wantChecked(t, "Return of "+k+" as "+ret, m, want, at)
		}
	}
}

func TestP7KindOfLocals(t *testing.T) {
	for name, k := range kinds {
		c := valueOf(k, 0)
		if k == nothing {
			continue
		}
		m := plainMethod(1, 3, append(c, do(api.Store, 2), do(api.Load, 2), do(api.Return)))
		f := typingOf(t, name, m)
		wantFrame(t, name, f[len(c)+1], len(c)+1, nil, typeList(refTo("Me"), nothing, k))
		wantFrame(t, name, f[len(c)+2], len(c)+2, typeList(k), typeList(refTo("Me"), nothing, k))
		m.Code[len(c)+1].A = 1
		wantChecked(t, "a local that is not set", m, api.ErrKind, len(c)+1)
	}
	m := plainMethod(1, 3, code(do(api.Load, 0), do(api.Load, 1), do(api.Load, 2), do(api.Return)))
	m.Stack, m.Params = 3, typeList(number)
	wantChecked(t, "a local behind the params", m, api.ErrKind, 2)
	m.Params = typeList(number, ints)
	wantChecked(t, "the last param", m, api.OK, 0)
}

// TestP7KindLeast: the least place is told, though another misfit makes it; what is not reached is not looked at.
func TestP7KindLeast(t *testing.T) {
	// at 5 Int is no array, so that what is put there is None, which comes to 2 by local 1
	c := code(do(api.Push), do(api.Store, 1), do(api.Load, 1), do(api.Push), do(api.GetRef), do(api.Store, 1), do(api.Jump, 2))
	wantChecked(t, "by what comes back", plainMethod(2, 2, c), api.ErrKind, 2)
	c = code(do(api.Nought), do(api.Store, 1), do(api.Load, 1), do(api.Push), do(api.GetInt), do(api.Store, 1), do(api.Jump, 2))
	wantChecked(t, "by what comes back and fits", plainMethod(2, 2, c), api.ErrKind, 2)
	c = code(do(api.Nought), do(api.Print), do(api.Nought), do(api.Print), do(api.Return))
	wantChecked(t, "of two", plainMethod(1, 1, c), api.ErrKind, 1)
	c = code(do(api.Jump, 3), do(api.Nought), do(api.Print), do(api.Nought), do(api.Print), do(api.Return))
	wantChecked(t, "not reached", plainMethod(1, 1, c), api.ErrKind, 4)
	c = code(do(api.Return), do(api.Nought), do(api.Print), do(api.Return))
	wantChecked(t, "nothing is reached", plainMethod(1, 1, c), api.OK, 0)
	// the Add takes what it should not; the Int that it puts is an Int all the same
	c = code(do(api.Push), do(api.IfZero, 4), do(api.Push), do(api.Jump, 8), do(api.Nought), do(api.Nought), do(api.Add), do(api.Jump, 8), do(api.Print), do(api.Return))
	wantChecked(t, "what it puts", plainMethod(2, 1, c), api.ErrKind, 6)
}
