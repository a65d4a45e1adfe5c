package classfile

import (
	"math"

	"warden/api"
)

// maxPool is how many names one byte can count.
const maxPool = 255

// writer gathers the names and what comes behind them, until something is wrong.
type writer struct {
	numbers map[string]int // of the names in the pool
	pool    []byte
	body    []byte
	wrong   bool
}

// Write gives the file of a class. What no file could hold (ErrValue) is told ahead of what were too long (ErrLong).
func Write(c api.Class) (string, api.Errno) {
	w := &writer{numbers: map[string]int{}}
	w.class(c)
	if w.wrong {
		return "", api.ErrValue
	}
	file := append([]byte(mark), byte(len(w.numbers)))
	file = append(file, w.pool...)
	file = append(file, w.body...)
	if len(file) > api.MaxFile {
		return "", api.ErrLong
	}
	return string(file), api.OK
}

// put drops what comes when the file is too long already: the rest is looked at for what is wrong alone.
func (w *writer) put(b byte) {
	if len(w.body) <= api.MaxFile {
		w.body = append(w.body, b)
	}
}

// number puts nothing where the width is 0: there it only sees to it that n is 0.
func (w *writer) number(n, width int) {
	least, most := bounds(width)
	if n < least || n > most {
		w.wrong = true
		return
	}
	for shift := 8 * (width - 1); shift >= 0; shift -= 8 {
		w.put(byte(n >> shift))
	}
}

func bounds(width int) (least, most int) {
	if width == 4 {
		return math.MinInt32, math.MaxInt32
	}
	return 0, 1<<(8*width) - 1
}

func (w *writer) name(s string) {
	n, known := w.numbers[s]
	if !known {
		if !isName(s) || len(w.numbers) == maxPool {
			w.wrong = true
			return
		}
		n = len(w.numbers)
		w.numbers[s] = n
		w.pool = append(w.pool, byte(len(s)))
		w.pool = append(w.pool, s...)
	}
	w.put(byte(n))
}

func (w *writer) nameIf(needed bool, s string) {
	if needed {
		w.name(s)
	} else if s != "" {
		w.wrong = true
	}
}

// writeList writes how many things there are, in that width, and these.
func writeList[T any](w *writer, width int, list []T, write func(T)) {
	w.number(len(list), width)
	for _, x := range list {
		if w.wrong {
			return
		}
		write(x)
	}
}

func (w *writer) class(c api.Class) {
	w.name(c.Name)
	w.name(c.Super)
	writeList(w, 1, c.Fields, w.field)
	writeList(w, 1, c.Methods, w.method)
}

func (w *writer) field(f api.Field) {
	w.name(f.Name)
	w.kindAndName(f.Type)
}

func (w *writer) method(m api.Method) {
	w.name(m.Name)
	writeList(w, 1, m.Params, w.kindAndName)
	w.kindAndName(m.Ret)
	w.number(m.Stack, 1)
	w.number(m.Locals, 1)
	writeList(w, 2, m.Code, w.instruction)
	writeList(w, 1, m.Handlers, w.handler)
}

func (w *writer) handler(h api.Handler) {
	w.number(h.From, 2)
	w.number(h.To, 2)
	w.number(h.At, 2)
	w.name(h.Class)
}

func (w *writer) kindAndName(t api.Type) {
	if t.Kind < api.None || t.Kind > api.Refs {
		w.wrong = true
		return
	}
	w.number(t.Kind, 1)
	w.nameIf(hasName(t.Kind), t.Name)
}

func (w *writer) instruction(i api.Ins) {
	if i.Op < 0 || i.Op >= len(shapes) {
		w.wrong = true
		return
	}
	s := shapes[i.Op]
	w.number(i.Op, 1)
	w.number(i.A, s.width)
	w.nameIf(s.class, i.Class)
	w.nameIf(s.member, i.Member)
}
