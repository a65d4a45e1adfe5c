package promises

import (
	"math"
	"strconv"
	"strings"
	"testing"

	"warden/api"
	"warden/warden"
)

// badNames: what is no name.
func badNames() []string {
	bad := []string{"", strings.Repeat("a", 13), strings.Repeat("a", 1<<20), "a b", "ab\x00", "Ä", "_a", "a-"}
	for b := range 256 {
		if !strings.Contains("abcdefghijklmnopqrstuvwxyzABCDEFGHIJKLMNOPQRSTUVWXYZ0123456789", string([]byte{byte(b)})) {
			bad = append(bad, string([]byte{byte(b)}), "a"+string([]byte{byte(b)})+"a")
		}
	}
	return bad
}

// neededNames: where in the sample a name is needed.
func neededNames(c *api.Class) []*string {
	m := &c.Methods[0]
	places := []*string{&c.Name, &c.Super, &c.Fields[0].Name, &c.Fields[1].Type.Name, &c.Fields[2].Type.Name, &m.Name,
		&m.Params[0].Name, &m.Params[4].Name, &m.Ret.Name, &m.Handlers[0].Class, &m.Handlers[1].Class, &c.Methods[1].Name}
	for i := range m.Code {
		switch m.Code[i].Op {
		case api.New, api.NewRefs, api.To, api.Is:
			places = append(places, &m.Code[i].Class)
		case api.Get, api.Put, api.Call:
			places = append(places, &m.Code[i].Class, &m.Code[i].Member)
		}
	}
	return places
}

func TestP4NeededNames(t *testing.T) {
	c := sample()
	for i := range neededNames(&c) {
		for _, bad := range badNames() {
			c := sample()
			*neededNames(&c)[i] = bad
			wantNoFile(t, "needed name "+strconv.Itoa(i)+" is "+strconv.Quote(bad[:min(len(bad), 20)]), c, api.ErrValue)
		}
	}
}

func TestP4GoodNames(t *testing.T) {
	for _, name := range []string{"a", "z", "A", "Z", "0", "9", "azAZ09", "abcdefghijkl", "000000000000"} {
		c := api.Class{Name: name, Super: name}
		if s, e := warden.Encode(c); e != api.OK || s != "W1\x01"+string(rune(len(name)))+name+"\x00\x00\x00\x00" {
			t.Errorf("Encode(%v) = %q, %d", c, s, e)
		}
	}
}

func TestP4TypesNames(t *testing.T) {
	for _, k := range []int{api.None, api.Int, api.Ints} {
		for _, turn := range []func(*api.Class, api.Type){
			func(c *api.Class, x api.Type) { c.Fields[0].Type = x },
			func(c *api.Class, x api.Type) { c.Methods[0].Params[1] = x },
			func(c *api.Class, x api.Type) { c.Methods[0].Ret = x },
		} {
			c := sample()
			turn(&c, api.Type{Kind: k, Name: "A1"})
			wantNoFile(t, "a name that is not needed, kind "+strconv.Itoa(k), c, api.ErrValue)
		}
	}
}

func TestP4Kinds(t *testing.T) {
	for _, k := range []int{api.Null, 6, 255, 256, 258, math.MaxInt, -1, -2, -254, math.MinInt} {
		for _, name := range []string{"", "A1"} {
			what, x := "kind "+strconv.Itoa(k), api.Type{Kind: k, Name: name}
			c := sample()
			c.Fields[4].Type = x
			wantNoFile(t, "field, "+what, c, api.ErrValue)
			c = sample()
			c.Methods[0].Params[4] = x
			wantNoFile(t, "param, "+what, c, api.ErrValue)
			c = sample()
			c.Methods[1].Ret = x
			wantNoFile(t, "Ret, "+what, c, api.ErrValue)
		}
	}
}

// spans: the least and the most that A of an Op may be; of those that are not here it must be 0.
var spans = map[int][2]int{
	0: {-1 << 31, 1<<31 - 1}, 2: {0, 255}, 3: {0, 255}, 12: {0, 65535}, 13: {0, 65535}, 14: {0, 65535}, 15: {0, 65535},
}

func TestP4Operands(t *testing.T) {
	for _, c := range sampleCode() {
		span := spans[c.ins.Op]
		for _, a := range []int{0, 1, -1, 255, 256, 65535, 65536, -256, 1<<31 - 1, 1 << 31, -1 << 31, -1<<31 - 1, 1 << 32, math.MaxInt, math.MinInt} {
			want := api.OK
			if a < span[0] || a > span[1] {
				want = api.ErrValue
			}
			x := sample()
			i := c.ins
			i.A = a
			x.Methods[0].Code = []api.Ins{i}
			if s, e := warden.Encode(x); e != want || (s == "") != (e != api.OK) {
				t.Errorf("Encode with %v = %d bytes, %d, want %d", i, len(s), e, want)
			}
		}
	}
}

func TestP4NotNeeded(t *testing.T) {
	for _, c := range sampleCode() {
		for _, name := range []string{"x", "Zz", "new", "a b"} {
			i := c.ins
			if i.Class == "" {
				i.Class = name
				x := sample()
				x.Methods[0].Code = append(x.Methods[0].Code, i)
				wantNoFile(t, "Op "+strconv.Itoa(i.Op)+" with a class", x, api.ErrValue)
			}
			i = c.ins
			if i.Member == "" {
				i.Member = name
				x := sample()
				x.Methods[0].Code = append(x.Methods[0].Code, i)
				wantNoFile(t, "Op "+strconv.Itoa(i.Op)+" with a member", x, api.ErrValue)
			}
		}
	}
}

func TestP4Ops(t *testing.T) {
	for _, o := range []int{32, 33, 255, 256, 257, 276, math.MaxInt, -1, -255, -256, math.MinInt} {
		c := example()
		c.Methods[0].Code[1].Op = o
		wantNoFile(t, "Op "+strconv.Itoa(o), c, api.ErrValue)
	}
}

func TestP4Numbers(t *testing.T) {
	for what, x := range map[string]struct {
		most  int
		place func(*api.Class) *int
	}{
		"Stack":  {255, func(c *api.Class) *int { return &c.Methods[1].Stack }},
		"Locals": {255, func(c *api.Class) *int { return &c.Methods[1].Locals }},
		"From":   {65535, func(c *api.Class) *int { return &c.Methods[0].Handlers[1].From }},
		"To":     {65535, func(c *api.Class) *int { return &c.Methods[0].Handlers[1].To }},
		"At":     {65535, func(c *api.Class) *int { return &c.Methods[0].Handlers[1].At }},
	} {
		for _, n := range []int{x.most + 1, 65536, 1 << 32, math.MaxInt, -1, -x.most, math.MinInt} {
			c := sample()
			*x.place(&c) = n
			wantNoFile(t, what+" "+strconv.Itoa(n), c, api.ErrValue)
		}
		for _, n := range []int{0, 1, x.most} {
			c := sample()
			*x.place(&c) = n
			if s, e := warden.Encode(c); e != api.OK {
				t.Errorf("%s %d: %d", what, n, e)
			} else if d, e, _ := warden.Decode(s); e != api.OK || !sameClass(c, d) {
				t.Errorf("%s %d: Decode = %s, %d", what, n, show(d), e)
			}
		}
	}
}

// manyNames: a class with n different names, from 2 on.
func manyNames(n int) api.Class {
	name := func(i int) string { return "n" + strconv.Itoa(i) }
	c := api.Class{Name: name(0), Super: name(1)}
	for i := 2; i < n; i += 2 {
		c.Fields = append(c.Fields, api.Field{Name: name(i), Type: api.Type{Kind: api.Ref, Name: name(min(i+1, n-1))}})
	}
	return c
}

// filled: n of x.
func filled[T any](n int, x T) []T {
	list := make([]T, n)
	for i := range list {
		list[i] = x
	}
	return list
}

func TestP4Counts(t *testing.T) {
	field := api.Field{Name: "A"}
	handler := api.Handler{Class: "A"}
	method := api.Method{Name: "A"}
	for _, x := range []struct {
		what string
		make func(n int) api.Class
		n    int
		want api.Errno
	}{
		{"names", manyNames, 254, api.OK}, {"names", manyNames, 255, api.OK}, {"names", manyNames, 256, api.ErrValue}, {"names", manyNames, 257, api.ErrValue}, {"names", manyNames, 400, api.ErrValue},
		{"fields", func(n int) api.Class { return api.Class{Name: "A", Super: "A", Fields: filled(n, field)} }, 255, api.OK},
		{"fields", func(n int) api.Class { return api.Class{Name: "A", Super: "A", Fields: filled(n, field)} }, 256, api.ErrValue},
		{"fields", func(n int) api.Class { return api.Class{Name: "A", Super: "A", Fields: filled(n, field)} }, 65537, api.ErrValue},
		{"methods", func(n int) api.Class { return api.Class{Name: "A", Super: "A", Methods: filled(n, method)} }, 254, api.OK},
		{"methods", func(n int) api.Class { return api.Class{Name: "A", Super: "A", Methods: filled(n, method)} }, 255, api.ErrLong},
		{"methods", func(n int) api.Class { return api.Class{Name: "A", Super: "A", Methods: filled(n, method)} }, 256, api.ErrValue},
		{"params", func(n int) api.Class { return with(api.Method{Name: "A", Params: filled(n, api.Type{})}) }, 255, api.OK},
		{"params", func(n int) api.Class { return with(api.Method{Name: "A", Params: filled(n, api.Type{})}) }, 256, api.ErrValue},
		{"handlers", func(n int) api.Class { return with(api.Method{Name: "A", Handlers: filled(n, handler)}) }, 255, api.OK},
		{"handlers", func(n int) api.Class { return with(api.Method{Name: "A", Handlers: filled(n, handler)}) }, 256, api.ErrValue},
		{"instructions", pops, 65535, api.ErrLong}, {"instructions", pops, 65536, api.ErrValue}, {"instructions", pops, 200000, api.ErrValue},
	} {
		c := x.make(x.n)
		s, e := warden.Encode(c)
		if e != x.want || (s == "") != (e != api.OK) {
			t.Errorf("%d %s: Encode = %d bytes, %d, want %d", x.n, x.what, len(s), e, x.want)
		}
		if e != api.OK {
			continue
		}
		if d, e, at := warden.Decode(s); e != api.OK || at != 0 || !sameClass(c, d) {
			t.Errorf("%d %s: Decode = %s, %d, %d", x.n, x.what, show(d), e, at)
		}
	}
}

func with(m api.Method) api.Class { return api.Class{Name: "A", Super: "A", Methods: []api.Method{m}} }

// pops: a class whose method has n times Pop: its file has 17 bytes and n.
func pops(n int) api.Class {
	return with(api.Method{Name: "A", Code: filled(n, api.Ins{Op: api.Pop})})
}

func TestP4MaxFile(t *testing.T) {
	wantNoFile(t, "2049 bytes", pops(2032), api.ErrLong)
	wantNoFile(t, "2050 bytes", pops(2033), api.ErrLong)
	wantNoFile(t, "much more", pops(60000), api.ErrLong)
	wantFile(t, pops(2031), "W1\x01\x01A\x00\x00\x00\x01\x00\x00\x00\x00\x00\x07\xef"+strings.Repeat("\x04", 2031)+"\x00")
	wantFile(t, pops(2030), "W1\x01\x01A\x00\x00\x00\x01\x00\x00\x00\x00\x00\x07\xee"+strings.Repeat("\x04", 2030)+"\x00")
}

// TestP4LongByNames: the pool's bytes count too.
func TestP4LongByNames(t *testing.T) {
	c := pops(2019)
	c.Super = "abcdefghijkl"
	wantNoFile(t, "2049 bytes", c, api.ErrLong)
	c.Methods[0].Code = c.Methods[0].Code[:2018]
	if s, e := warden.Encode(c); e != api.OK || len(s) != api.MaxFile {
		t.Errorf("Encode = %d bytes, %d", len(s), e)
	}
}

// TestP4ValueAheadOfLong: what no file holds is told ahead of a file that were too long, wherever it stands.
func TestP4ValueAheadOfLong(t *testing.T) {
	for _, turn := range []func(*api.Class){
		func(c *api.Class) { c.Name = "" },
		func(c *api.Class) { c.Methods[0].Code[59999].A = 1 },
		func(c *api.Class) { c.Methods[0].Handlers = []api.Handler{{}} },
		func(c *api.Class) { c.Methods = append(c.Methods, api.Method{Name: "-"}) },
		func(c *api.Class) { c.Methods = append(c.Methods, api.Method{Name: "m", Ret: api.Type{Kind: 5}}) },
		func(c *api.Class) { c.Methods[0].Params = make([]api.Type, 256) },
	} {
		c := pops(60000)
		turn(&c)
		wantNoFile(t, "long and wrong", c, api.ErrValue)
	}
	c := pops(60000)
	for _, f := range manyNames(256).Fields {
		c.Methods[0].Handlers = append(c.Methods[0].Handlers, api.Handler{Class: f.Name}, api.Handler{Class: f.Type.Name})
	}
	wantNoFile(t, "long, 255 names", c, api.ErrLong)
	c.Super = "another"
	wantNoFile(t, "long, 256 names", c, api.ErrValue)
}
