package promises

import (
	"slices"
	"strconv"
	"strings"
	"testing"

	"warden/api"
)

func classMethod(name string, ret api.Type, params ...api.Type) api.Method {
	return api.Method{Name: name, Ret: ret, Params: params}
}

func TestP6Good(t *testing.T) {
	twelve := []api.Class{classOf("C0", "C1")}
	for n := 1; n < api.MaxFiles; n++ {
		super := "Object"
		if n+1 < api.MaxFiles {
			super = "C" + strconv.Itoa(n+1)
		}
		twelve = append(twelve, withFields(classOf("C"+strconv.Itoa(n), super), field("f"+strconv.Itoa(n), refTo("C0"))))
	}
	for what, classes := range map[string][]api.Class{
		"none":                {},
		"one":                 {classOf("A", "Object")},
		"twelve":              twelve,
		"the family":          family(),
		"Super behind":        {classOf("C", "B"), classOf("B", "A"), classOf("A", "Object")},
		"like one built in":   {classOf("object", "Object"), classOf("Objec", "Throw"), classOf("Objects", "Nil")},
		"a field as a method": {withFields(classOf("A", "Object", classMethod("x", number)), field("x", ints))},
	} {
		wantAnswer(t, what, filesOf(t, classes...), false, api.OK, api.Place{})
	}
	for _, name := range builtIns() {
		c := withFields(classOf("A", name, classMethod("m", refTo(name), refsOf(name))), field("x", refTo(name)), field("y", refsOf(name)))
		c.Methods[0].Handlers = []api.Handler{{Class: name}}
		wantAnswer(t, "all of "+name, filesOf(t, c), false, api.OK, api.Place{})
	}
}

// TestP6Unchecked: nothing that the code does is told unchecked.
func TestP6Unchecked(t *testing.T) {
	for _, m := range []api.Method{
		plainMethod(0, 0, nil), plainMethod(0, 0, code(do(api.Load, 255))), plainMethod(0, 0, code(do(api.Jump, 65535))),
		plainMethod(0, 0, code(by(api.New, "None"), by(api.Call, "A", "none"), by(api.Get, "Object", "x"))),
		plainMethod(0, 0, nil, api.Handler{From: 9, To: 3, At: 65535, Class: "Object"}),
		plainMethod(1, 1, code(do(api.Add))), plainMethod(1, 1, code(do(api.Push), do(api.Throw))),
	} {
		wantAnswer(t, "unchecked", filesOf(t, classOf("A", "Object", m)), false, api.OK, api.Place{})
		wantAnswer(t, "unchecked", filesOf(t, classOf("A", "Object", m), classOf("A", "Object")), false, api.ErrTwice, api.Place{File: 1})
	}
}

func TestP6TooManyFiles(t *testing.T) {
	good := filesOf(t, classOf("A", "Object"))[0]
	for _, n := range []int{13, 14, 1000, 1 << 20} {
		for _, file := range []string{good, "", "V"} {
			wantAnswer(t, strconv.Itoa(n)+" files", filled(n, file), true, api.ErrArg, api.Place{})
		}
	}
	wantAnswer(t, "12 files", filled(12, good), true, api.ErrTwice, api.Place{File: 1})
}

// TestP6Decode: what is wrong with the first file that can't be read comes ahead of all that is wrong between them.
func TestP6Decode(t *testing.T) {
	good := filesOf(t, classOf("A", "None", plainMethod(0, 0, nil)))[0]
	for _, x := range []struct {
		file string
		e    api.Errno
		at   int
	}{
		{strings.Repeat("W", 2049), api.ErrLong, 0}, {"", api.ErrShort, 0}, {good[:9], api.ErrShort, 9}, {"W2", api.ErrForm, 1},
		{"W1\x01\x00", api.ErrName, 3}, {"W1\x01\x01A\x01", api.ErrPool, 5}, {good + "x", api.ErrMore, len(good)},
	} {
		for n := range api.MaxFiles {
			files := filled(api.MaxFiles, good)
			files[n] = x.file
			wantAnswer(t, "a bad file", files, true, x.e, api.Place{File: n, At: x.at})
			if n > 0 {
				files[n-1] = "W1\x01\x01-"
				wantAnswer(t, "two bad files", files, true, api.ErrName, api.Place{File: n - 1, At: 3})
			}
		}
	}
}

// breach: classes that break a promise, and which of them does.
type breach struct {
	what    string
	errno   api.Errno
	file    int
	classes []api.Class
}

func breachesOfNames() []breach {
	list := []breach{
		{"twice", api.ErrTwice, 1, []api.Class{classOf("A", "Object"), classOf("A", "Throw")}},
		{"twice, apart", api.ErrTwice, 2, []api.Class{classOf("A", "Object"), classOf("B", "Object"), classOf("A", "Object")}},
		{"thrice", api.ErrTwice, 1, []api.Class{classOf("A", "Object"), classOf("A", "Object"), classOf("A", "Object")}},
		{"no Super", api.ErrSuper, 0, []api.Class{classOf("A", "None")}},
		{"no Super, behind", api.ErrSuper, 1, []api.Class{classOf("A", "B"), classOf("B", "object")}},
		{"itself", api.ErrLoop, 0, []api.Class{classOf("A", "A")}},
		{"itself, behind", api.ErrLoop, 1, []api.Class{classOf("A", "Object"), classOf("B", "B")}},
		{"two in a loop", api.ErrLoop, 0, []api.Class{classOf("A", "B"), classOf("B", "A")}},
		{"below a loop", api.ErrLoop, 2, []api.Class{classOf("A", "B"), classOf("B", "C"), classOf("C", "D"), classOf("D", "C")}},
		{"below itself", api.ErrLoop, 1, []api.Class{classOf("A", "B"), classOf("B", "B")}},
		{"two loops", api.ErrLoop, 1, []api.Class{classOf("O", "Object"), classOf("A", "B"), classOf("C", "D"), classOf("B", "A"), classOf("D", "C")}},
	}
	for _, name := range builtIns() {
		list = append(list, breach{"built in: " + name, api.ErrTwice, 1, []api.Class{classOf("A", name), classOf(name, "Object")}})
	}
	var ring []api.Class
	for n := range api.MaxFiles {
		ring = append(ring, classOf("R"+strconv.Itoa(n), "R"+strconv.Itoa((n+5)%api.MaxFiles)))
	}
	return append(list, breach{"twelve in a loop", api.ErrLoop, 0, ring})
}

func breachesOfTypes() []breach {
	var list []breach
	for what, bad := range map[string]api.Type{"None": nothing, "Ref": refTo("None"), "Refs": refsOf("None"), "Ref m": refTo("m")} {
		for where, c := range map[string]api.Class{
			"field":         withFields(classOf("A", "Object"), field("x", bad)),
			"second field":  withFields(classOf("A", "Object"), field("x", number), field("y", bad)),
			"param":         classOf("A", "Object", classMethod("m", number, bad)),
			"second param":  classOf("A", "Object", classMethod("m", number, refTo("A"), bad)),
			"second method": classOf("A", "Object", classMethod("m", number), classMethod("n", number, bad)),
			"Ret":           classOf("A", "Object", classMethod("m", bad)),
			"second Ret":    classOf("A", "Object", classMethod("m", number), classMethod("n", bad)),
		} {
			if strings.HasSuffix(where, "Ret") && bad == nothing {
				continue
			}
			list = append(list, breach{where + ": " + what, api.ErrType, 1, []api.Class{classOf("O", "A"), c}})
		}
	}
	none := api.Handler{Class: "None"}
	return append(list,
		breach{"handler", api.ErrType, 0, []api.Class{classOf("A", "Object", plainMethod(0, 0, nil, none))}},
		breach{"second handler", api.ErrType, 0, []api.Class{classOf("A", "Object", plainMethod(0, 0, nil, api.Handler{Class: "A"}, none))}},
		breach{"handler of a second method", api.ErrType, 0, []api.Class{classOf("A", "Object", classMethod("a", nothing), plainMethod(0, 0, nil, none))}})
}

func breachesOfMembers() []breach {
	x, y := field("x", number), field("y", number)
	list := []breach{
		{"two fields", api.ErrMember, 0, []api.Class{withFields(classOf("A", "Object"), x, x)}},
		{"two fields, apart", api.ErrMember, 0, []api.Class{withFields(classOf("A", "Object"), x, y, field("x", ints))}},
		{"two methods", api.ErrMember, 0, []api.Class{classOf("A", "Object", classMethod("m", number), classMethod("m", number))}},
		{"two methods, apart", api.ErrMember, 0, []api.Class{classOf("A", "Object", classMethod("m", number), classMethod("n", number), classMethod("m", ints))}},
		{"a field of Super", api.ErrMember, 0, []api.Class{withFields(classOf("B", "A"), y, x), withFields(classOf("A", "Object"), x)}},
		{"a field from above", api.ErrMember, 3, []api.Class{withFields(classOf("A", "Nil"), y, x), classOf("B", "A"), withFields(classOf("C", "B"), field("z", ints)), withFields(classOf("D", "C"), x)}},
	}
	for what, two := range map[string][2]api.Method{
		"one param more":       {classMethod("m", number), classMethod("m", number, number)},
		"one param less":       {classMethod("m", number, ints, ints), classMethod("m", number, ints)},
		"another param":        {classMethod("m", number, ints, number), classMethod("m", number, number, ints)},
		"a param's class":      {classMethod("m", number, refTo("A")), classMethod("m", number, refTo("Object"))},
		"a param's kind":       {classMethod("m", number, refTo("A")), classMethod("m", number, refsOf("A"))},
		"another Ret":          {classMethod("m", number), classMethod("m", ints)},
		"a Ret":                {classMethod("m", nothing), classMethod("m", ints)},
		"no Ret":               {classMethod("m", refTo("A")), classMethod("m", nothing)},
		"the Ret's class":      {classMethod("m", refTo("A")), classMethod("m", refTo("Object"))},
		"the Ret's class less": {classMethod("m", refTo("Object")), classMethod("m", refTo("A"))},
	} {
		list = append(list,
			breach{what, api.ErrOverride, 0, []api.Class{classOf("B", "A", classMethod("a", ints), two[0]), classOf("A", "Object", two[1])}},
			breach{what + ", from above", api.ErrOverride, 2, []api.Class{classOf("A", "Size", classMethod("a", ints), two[1]), classOf("B", "A"), classOf("C", "B", two[0])}})
	}
	a, m := classMethod("a", number, ints), classMethod("m", number)
	return append(list,
		breach{"the second method", api.ErrOverride, 1, []api.Class{classOf("A", "Object", a, m), classOf("B", "A", a, classMethod("m", ints))}},
		breach{"like the one between", api.ErrOverride, 0, []api.Class{classOf("C", "B", m), classOf("B", "A", m), classOf("A", "Object", classMethod("m", ints))}},
		breach{"unlike the one from above alone", api.ErrOverride, 1, []api.Class{classOf("A", "Object", classMethod("m", ints)), classOf("B", "A", classMethod("m", number)), classOf("C", "B", classMethod("m", number))}},
		breach{"unlike the one between alone", api.ErrOverride, 0, []api.Class{classOf("C", "B", classMethod("m", ints)), classOf("B", "A", classMethod("m", number)), classOf("A", "Object", classMethod("m", ints))}})
}

func breaches() []breach {
	return slices.Concat(breachesOfNames(), breachesOfTypes(), breachesOfMembers())
}

func TestP6Breaches(t *testing.T) {
	for _, b := range breaches() {
		files := filesOf(t, b.classes...)
		for _, checked := range []bool{false, true} {
			wantAnswer(t, b.what, files, checked, b.errno, api.Place{File: b.file})
		}
	}
}

// TestP6Allowed: what comes near to a breach, but is none.
func TestP6Allowed(t *testing.T) {
	m := classMethod("m", refTo("A"), number, refsOf("B"))
	same := m
	same.Stack, same.Locals, same.Code, same.Handlers = 9, 9, code(do(api.Pop)), []api.Handler{{Class: "Nil"}}
	for what, classes := range map[string][]api.Class{
		"one field in two classes":       {withFields(classOf("A", "O"), field("x", number)), classOf("O", "Object"), withFields(classOf("B", "O"), field("x", ints))},
		"one method in two classes":      {classOf("A", "Object", m), classOf("B", "Object", classMethod("m", number))},
		"the same Params and Ret":        {classOf("A", "B", m), classOf("B", "Object", same)},
		"a field as a method from above": {withFields(classOf("A", "B"), field("m", number)), classOf("B", "Object", m)},
		"a method as a field from above": {classOf("A", "B", m), withFields(classOf("B", "Object"), field("m", number))},
		"a class as a member":            {withFields(classOf("A", "B", classMethod("A", number)), field("A", refTo("A"))), withFields(classOf("B", "Object"), field("B", refTo("B")))},
	} {
		wantAnswer(t, what, filesOf(t, classes...), false, api.OK, api.Place{})
	}
}

// renamed: the same classes by other names; what is built in, or is not there, stays.
func renamed(classes []api.Class, behind string) []api.Class {
	again := func(name string) string {
		if slices.ContainsFunc(classes, func(c api.Class) bool { return c.Name == name }) && !slices.Contains(builtIns(), name) {
			return name + behind
		}
		return name
	}
	var list []api.Class
	for _, c := range classes {
		d := api.Class{Name: again(c.Name), Super: again(c.Super)}
		for _, f := range c.Fields {
			d.Fields = append(d.Fields, field(f.Name, api.Type{Kind: f.Type.Kind, Name: again(f.Type.Name)}))
		}
		for _, m := range c.Methods {
			params := slices.Clone(m.Params)
			for k := range params {
				params[k].Name = again(params[k].Name)
			}
			m.Params, m.Ret.Name = params, again(m.Ret.Name)
			d.Methods = append(d.Methods, m)
		}
		list = append(list, d)
	}
	return list
}

// TestP6Order: of two breaches the one that is named first is told, wherever it stands; of two alike the one in the least file.
func TestP6Order(t *testing.T) {
	all := breaches()
	for _, first := range all {
		for _, second := range all {
			classes := append(renamed(first.classes, "p"), renamed(second.classes, "q")...)
			if len(classes) > api.MaxFiles {
				continue
			}
			want, file := first.errno, first.file
			if second.errno < first.errno {
				want, file = second.errno, len(first.classes)+second.file
			}
			wantAnswer(t, first.what+" and "+second.what, filesOf(t, classes...), true, want, api.Place{File: file})
		}
	}
}

// TestP6AheadOfCode: each breach is told ahead of what is wrong with code, which is told of the first method that has something.
func TestP6AheadOfCode(t *testing.T) {
	good, bad := plainMethod(1, 1, code(do(api.Return))), plainMethod(1, 1, code(do(api.Pop), do(api.Return)))
	good.Name = "good"
	for _, b := range breaches() {
		if len(b.classes) == api.MaxFiles {
			continue
		}
		classes := append([]api.Class{classOf("Z", "Object", bad)}, b.classes...)
		wantAnswer(t, b.what, filesOf(t, classes...), true, b.errno, api.Place{File: 1 + b.file})
	}
	worse := plainMethod(1, 1, nil)
	files := filesOf(t, classOf("A", "Object", good), classOf("B", "A", good, bad), classOf("C", "Object", worse))
	wantAnswer(t, "the first method", files, true, api.ErrStack, api.Place{File: 1, Method: 1})
	files = filesOf(t, classOf("C", "Object", good), classOf("B", "A", good, worse), classOf("A", "Object", bad))
	wantAnswer(t, "the first method", files, true, api.ErrCode, api.Place{File: 1, Method: 1})
}
