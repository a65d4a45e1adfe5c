// Package check looks at a method ahead of any run: at its code, at how many values are on its stack, and of which types they are.
package check

import (
	"warden/api"
	"warden/link"
	"warden/table"
)

// Method gives the error of a class's method and its place, or OK and 0 (P7).
func Method(cs *link.Classes, class string, m api.Method) (api.Errno, int) {
	if at, wrong := codeFault(cs, m); wrong {
		return api.ErrCode, at
	}
	w := walked(cs, m)
	if at, wrong := w.stackFault(); wrong {
		return api.ErrStack, at
	}
	t := typed(cs, class, w)
	if at, wrong := t.kindFault(); wrong {
		return api.ErrKind, at
	}
	return api.OK, 0
}

// Typing gives a frame for each instruction of a class's method, which is to be without an error (P8).
func Typing(cs *link.Classes, class string, m api.Method) []api.Frame {
	return typed(cs, class, walked(cs, m)).frames()
}

func codeFault(cs *link.Classes, m api.Method) (int, bool) {
	count := len(m.Code)
	if count == 0 || m.Locals < 1+len(m.Params) {
		return 0, true
	}
	for at, i := range m.Code {
		if !table.IsThere(cs, m, i) || at == count-1 && !isEnd(i.Op) {
			return at, true
		}
	}
	for _, h := range m.Handlers {
		if h.From >= h.To || h.To > count || h.At >= count || !cs.Below(h.Class, link.Throw) {
			return h.From, true
		}
	}
	return 0, false
}

func isEnd(op int) bool { return op == api.Jump || op == api.Return || op == api.Throw }
