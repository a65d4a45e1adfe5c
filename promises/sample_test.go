// Package promises holds the tests of DOC.md's promises, through the calls of package warden alone; a test's name tells its promise.
package promises

import (
	"fmt"
	"reflect"
	"strings"
	"testing"

	"warden/api"
	"warden/warden"
)

// What a part of a file is.
const (
	plain    = iota
	poolByte // that tells how many bytes a name has
	nameByte // a name's number
	typeByte // a type's first byte
	opByte
)

// part: some bytes of a file, all of one kind.
type part struct {
	what  int
	bytes string
}

func bytesOf(numbers ...int) string {
	var b []byte
	for _, n := range numbers {
		b = append(b, byte(n))
	}
	return string(b)
}

func numbers(n ...int) []part { return []part{{plain, bytesOf(n...)}} }
func names(n ...int) []part {
	var p []part
	for _, x := range n {
		p = append(p, part{nameByte, bytesOf(x)})
	}
	return p
}

// kind: a type, with the class's name, if one is given.
func kind(k int, name ...int) []part {
	return append([]part{{typeByte, bytesOf(k)}}, names(name...)...)
}

func op(o int, behind ...[]part) []part {
	return append([]part{{opByte, bytesOf(o)}}, join(behind...)...)
}

func join(lists ...[]part) []part {
	var all []part
	for _, l := range lists {
		all = append(all, l...)
	}
	return all
}

func fileOf(parts []part) string {
	var b strings.Builder
	for _, p := range parts {
		b.WriteString(p.bytes)
	}
	return b.String()
}

// poolParts: a pool of these names.
func poolParts(names ...string) []part {
	p := numbers(len(names))
	for _, n := range names {
		p = append(p, part{poolByte, bytesOf(len(n))}, part{plain, n})
	}
	return p
}

// sampleNames: the pool of the sample, in the order in which its names are first used.
var sampleNames = []string{"A1", "Object", "x", "Zz", "y", "m", "abcdefghijkl", "7"}

// coded: an instruction, and its bytes in a file with the pool sampleNames.
type coded struct {
	ins   api.Ins
	parts []part
}

// sampleCode: every Op, with the edges of what it may need.
func sampleCode() []coded {
	return []coded{
		{api.Ins{Op: 0, A: 7}, op(0, numbers(0, 0, 0, 7))},
		{api.Ins{Op: 0, A: 0x01020304}, op(0, numbers(1, 2, 3, 4))},
		{api.Ins{Op: 0, A: -1}, op(0, numbers(255, 255, 255, 255))},
		{api.Ins{Op: 0, A: -256}, op(0, numbers(255, 255, 255, 0))},
		{api.Ins{Op: 0, A: -1 << 31}, op(0, numbers(128, 0, 0, 0))},
		{api.Ins{Op: 0, A: 1<<31 - 1}, op(0, numbers(127, 255, 255, 255))},
		{api.Ins{Op: 1}, op(1)},
		{api.Ins{Op: 2, A: 0}, op(2, numbers(0))},
		{api.Ins{Op: 2, A: 255}, op(2, numbers(255))},
		{api.Ins{Op: 3, A: 128}, op(3, numbers(128))},
		{api.Ins{Op: 3, A: 255}, op(3, numbers(255))},
		{api.Ins{Op: 4}, op(4)},
		{api.Ins{Op: 5}, op(5)},
		{api.Ins{Op: 6}, op(6)},
		{api.Ins{Op: 7}, op(7)},
		{api.Ins{Op: 8}, op(8)},
		{api.Ins{Op: 9}, op(9)},
		{api.Ins{Op: 10}, op(10)},
		{api.Ins{Op: 11}, op(11)},
		{api.Ins{Op: 12, A: 0}, op(12, numbers(0, 0))},
		{api.Ins{Op: 12, A: 65535}, op(12, numbers(255, 255))},
		{api.Ins{Op: 13, A: 258}, op(13, numbers(1, 2))},
		{api.Ins{Op: 14, A: 65280}, op(14, numbers(255, 0))},
		{api.Ins{Op: 15, A: 255}, op(15, numbers(0, 255))},
		{api.Ins{Op: 16, Class: "Zz"}, op(16, names(3))},
		{api.Ins{Op: 17, Class: "A1", Member: "x"}, op(17, names(0, 2))},
		{api.Ins{Op: 18, Class: "Object", Member: "Object"}, op(18, names(1, 1))},
		{api.Ins{Op: 19, Class: "m", Member: "y"}, op(19, names(5, 4))},
		{api.Ins{Op: 20}, op(20)},
		{api.Ins{Op: 21}, op(21)},
		{api.Ins{Op: 22, Class: "x"}, op(22, names(2))},
		{api.Ins{Op: 23}, op(23)},
		{api.Ins{Op: 24}, op(24)},
		{api.Ins{Op: 25}, op(25)},
		{api.Ins{Op: 26}, op(26)},
		{api.Ins{Op: 27}, op(27)},
		{api.Ins{Op: 28, Class: "A1"}, op(28, names(0))},
		{api.Ins{Op: 29, Class: "abcdefghijkl"}, op(29, names(6))},
		{api.Ins{Op: 30}, op(30)},
		{api.Ins{Op: 31}, op(31)},
	}
}

// sample: a class that has all that a file can hold.
func sample() api.Class {
	var code []api.Ins
	for _, c := range sampleCode() {
		code = append(code, c.ins)
	}
	return api.Class{
		Name: "A1", Super: "Object",
		Fields: []api.Field{
			{Name: "x", Type: api.Type{Kind: api.Int}},
			{Name: "A1", Type: api.Type{Kind: api.Ref, Name: "Zz"}},
			{Name: "y", Type: api.Type{Kind: api.Refs, Name: "Object"}},
			{Name: "y", Type: api.Type{Kind: api.Ints}},
			{Name: "x"},
		},
		Methods: []api.Method{
			{
				Name:   "m",
				Params: []api.Type{{Kind: api.Ref, Name: "A1"}, {}, {Kind: api.Int}, {Kind: api.Ints}, {Kind: api.Refs, Name: "abcdefghijkl"}},
				Ret:    api.Type{Kind: api.Ref, Name: "Zz"},
				Stack:  255, Locals: 254,
				Code:     code,
				Handlers: []api.Handler{{From: 1, To: 258, At: 772, Class: "7"}, {To: 65535, Class: "A1"}},
			},
			{Name: "x"},
		},
	}
}

// sampleParts: the file of the sample.
func sampleParts() []part {
	code := sampleCode()
	p := join(
		numbers('W', '1'), poolParts(sampleNames...), names(0, 1),
		numbers(5), names(2), kind(1), names(0), kind(2, 3), names(4), kind(4, 1), names(4), kind(3), names(2), kind(0),
		numbers(2),
		names(5), numbers(5), kind(2, 0), kind(0), kind(1), kind(3), kind(4, 6), kind(2, 3), numbers(255, 254),
		numbers(0, len(code)),
	)
	for _, c := range code {
		p = append(p, c.parts...)
	}
	return join(p,
		numbers(2, 0, 1, 1, 2, 3, 4), names(7), numbers(0, 0, 255, 255, 0, 0), names(0),
		names(2), numbers(0), kind(0), numbers(0, 0, 0, 0, 0),
	)
}

// exampleFile: the file of the document's first example.
const exampleFile = "W1\x03\x01A\x06Object\x01m\x00\x01\x00\x01\x02\x00\x01\x01\x01\x00\x02\x00\x00\x00\x00\x07\x14\x00"

func example() api.Class {
	return api.Class{Name: "A", Super: "Object", Methods: []api.Method{{
		Name: "m", Ret: api.Type{Kind: api.Int}, Stack: 1, Locals: 1,
		Code: []api.Ins{{Op: api.Push, A: 7}, {Op: api.Return}},
	}}}
}

// sameList: no list is as good as an empty one.
func sameList[T any](a, b []T) bool {
	return len(a) == 0 && len(b) == 0 || reflect.DeepEqual(a, b)
}

func sameClass(a, b api.Class) bool {
	if a.Name != b.Name || a.Super != b.Super || !sameList(a.Fields, b.Fields) || len(a.Methods) != len(b.Methods) {
		return false
	}
	for i, m := range a.Methods {
		if !sameMethod(m, b.Methods[i]) {
			return false
		}
	}
	return true
}

func sameMethod(a, b api.Method) bool {
	return a.Name == b.Name && a.Ret == b.Ret && a.Stack == b.Stack && a.Locals == b.Locals &&
		sameList(a.Params, b.Params) && sameList(a.Code, b.Code) && sameList(a.Handlers, b.Handlers)
}

// show tells the beginning of a thing, which may be long.
func show(x any) string {
	return fmt.Sprintf("%.300q", fmt.Sprint(x))
}

// wantFile asks that c has that file, and the file that class.
func wantFile(t *testing.T, c api.Class, file string) {
	t.Helper()
	if s, e := warden.Encode(c); e != api.OK || s != file {
		t.Errorf("Encode = %d bytes %.200q, %d, want %d bytes %.200q", len(s), s, e, len(file), file)
	}
	if d, e, at := warden.Decode(file); e != api.OK || at != 0 || !sameClass(c, d) {
		t.Errorf("Decode(%.200q) = %s, %d, %d, want %s", file, show(d), e, at, show(c))
	}
}

// wantNoFile asks for that error of Encode.
func wantNoFile(t *testing.T, what string, c api.Class, want api.Errno) {
	t.Helper()
	if s, e := warden.Encode(c); e != want || s != "" {
		t.Errorf("%s: Encode = %d bytes, %d, want none, %d", what, len(s), e, want)
	}
}

// wantFault asks for that error and place of Decode, and no class.
func wantFault(t *testing.T, file string, want api.Errno, place int) {
	t.Helper()
	if d, e, at := warden.Decode(file); e != want || at != place || !sameClass(d, api.Class{}) {
		t.Errorf("Decode of %d bytes %.200q = %s, %d, %d, want %d, %d", len(file), file, show(d), e, at, want, place)
	}
}
