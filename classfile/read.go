package classfile

import (
	"slices"
	"strings"

	"warden/api"
)

// Fault is what Read panics with: what is wrong with a file, and at which byte.
type Fault struct {
	Errno api.Errno
	At    int
}

// reader stands in a file at its next byte, and knows the pool's names, of which the first so many were used.
type reader struct {
	file string
	at   int
	pool []string
	used int
}

// Read gives the class of a file. Where there is none it panics with a Fault, from however deep: the caller is to catch it.
func Read(file string) api.Class {
	if len(file) > api.MaxFile {
		panic(Fault{api.ErrLong, 0})
	}
	r := &reader{file: file}
	r.readMark()
	r.readPool()
	c := r.class()
	r.end()
	return c
}

func (r *reader) take(n int) string {
	if n > len(r.file)-r.at {
		panic(Fault{api.ErrShort, len(r.file)})
	}
	s := r.file[r.at : r.at+n]
	r.at += n
	return s
}

func (r *reader) number(width int) int {
	n := 0
	for _, b := range []byte(r.take(width)) {
		n = n<<8 | int(b)
	}
	return n
}

func (r *reader) readMark() {
	for i := range len(mark) {
		if r.number(1) != int(mark[i]) {
			panic(Fault{api.ErrForm, i})
		}
	}
}

func (r *reader) readPool() {
	for range r.number(1) {
		r.pool = append(r.pool, r.newName())
	}
}

// newName copies the name, so that the class does not keep the file.
func (r *reader) newName() string {
	at := r.at
	s := r.take(r.number(1))
	if !isName(s) || slices.Contains(r.pool, s) {
		panic(Fault{api.ErrName, at})
	}
	return strings.Clone(s)
}

// end comes behind the class: unused names are told ahead of bytes that are too many.
func (r *reader) end() {
	if r.used < len(r.pool) {
		panic(Fault{api.ErrPool, len(r.file)})
	}
	if r.at < len(r.file) {
		panic(Fault{api.ErrMore, r.at})
	}
}

func (r *reader) name() string {
	at := r.at
	n := r.number(1)
	if n > r.used || n >= len(r.pool) {
		panic(Fault{api.ErrPool, at})
	}
	r.used = max(r.used, n+1)
	return r.pool[n]
}

func (r *reader) nameIf(needed bool) string {
	if !needed {
		return ""
	}
	return r.name()
}

// readList reads a number of that width, and as many things.
func readList[T any](r *reader, width int, read func() T) []T {
	var list []T
	for range r.number(width) {
		list = append(list, read())
	}
	return list
}

// The literals below lean on it that Go makes the calls within one from left to right: they stand in the file's order.

func (r *reader) class() api.Class {
	return api.Class{
		Name:    r.name(),
		Super:   r.name(),
		Fields:  readList(r, 1, r.field),
		Methods: readList(r, 1, r.method),
	}
}

func (r *reader) field() api.Field {
	return api.Field{Name: r.name(), Type: r.kindAndName()}
}

func (r *reader) method() api.Method {
	return api.Method{
		Name:     r.name(),
		Params:   readList(r, 1, r.kindAndName),
		Ret:      r.kindAndName(),
		Stack:    r.number(1),
		Locals:   r.number(1),
		Code:     readList(r, 2, r.instruction),
		Handlers: readList(r, 1, r.handler),
	}
}

func (r *reader) handler() api.Handler {
	return api.Handler{From: r.number(2), To: r.number(2), At: r.number(2), Class: r.name()}
}

func (r *reader) kindAndName() api.Type {
	at := r.at
	kind := r.number(1)
	if kind > api.Refs {
		panic(Fault{api.ErrForm, at})
	}
	return api.Type{Kind: kind, Name: r.nameIf(hasName(kind))}
}

func (r *reader) instruction() api.Ins {
	at := r.at
	op := r.number(1)
	if op >= len(shapes) {
		panic(Fault{api.ErrForm, at})
	}
	s := shapes[op]
	return api.Ins{Op: op, A: r.operand(s.width), Class: r.nameIf(s.class), Member: r.nameIf(s.member)}
}

// operand: four bytes are the only ones with a sign.
func (r *reader) operand(width int) int {
	n := r.number(width)
	if width == 4 {
		return int(int32(n))
	}
	return n
}
