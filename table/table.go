// Package table tells what DOC.md's table of instructions tells: what each takes, puts and asks for, and where it goes on.
package table

import (
	"warden/api"
	"warden/link"
)

// Effect is what an instruction does to a stack, the deepest value first.
type Effect struct {
	Takes []api.Type // what each value is to be under: under None is any
	Puts  []api.Type // None, where the type hangs on what was there
	Ends  bool       // the method goes on nowhere, and nothing is left of its stack
}

// EffectOf needs the class, field or method that the instruction names to be there.
func EffectOf(cs *link.Classes, m api.Method, i api.Ins) Effect {
	return Effect{Takes: takes(cs, m, i), Puts: puts(cs, i), Ends: i.Op == api.Return || i.Op == api.Throw}
}

// Behind tells how many values are behind an instruction, if there are enough ahead of it, and behind it not too many.
func (e Effect) Behind(ahead, most int) (int, bool) {
	left := ahead - len(e.Takes)
	if e.Ends {
		return 0, left >= 0
	}
	behind := left + len(e.Puts)
	return behind, left >= 0 && behind <= most
}

func types(list ...api.Type) []api.Type { return list }

func kind(k int) api.Type { return api.Type{Kind: k} }

func takes(cs *link.Classes, m api.Method, i api.Ins) []api.Type {
	whole, object := kind(api.Int), link.RefTo(link.Object)
	switch i.Op {
	case api.Store, api.Pop, api.Dup:
		return types(kind(api.None))
	case api.Swap:
		return types(kind(api.None), kind(api.None))
	case api.Add, api.Sub, api.Mul, api.Div, api.Rem, api.IfLess:
		return types(whole, whole)
	case api.IfZero, api.NewInts, api.NewRefs, api.Print:
		return types(whole)
	case api.IfSame:
		return types(object, object)
	case api.Get:
		return types(link.RefTo(i.Class))
	case api.Put:
		return types(link.RefTo(i.Class), fieldType(cs, i))
	case api.Call:
		return append(types(link.RefTo(i.Class)), called(cs, i).Params...)
	case api.Return:
		return unlessNone(m.Ret)
	case api.Length, api.To, api.Is:
		return types(object)
	case api.GetInt:
		return types(kind(api.Ints), whole)
	case api.PutInt:
		return types(kind(api.Ints), whole, whole)
	case api.GetRef:
		return types(object, whole)
	case api.PutRef:
		return types(object, whole, object)
	case api.Throw:
		return types(link.RefTo(link.Throw))
	}
	return nil
}

func puts(cs *link.Classes, i api.Ins) []api.Type {
	switch i.Op {
	case api.Push, api.Add, api.Sub, api.Mul, api.Div, api.Rem, api.Length, api.GetInt, api.Is:
		return types(kind(api.Int))
	case api.Nought:
		return types(kind(api.Null))
	case api.Load, api.GetRef:
		return types(kind(api.None))
	case api.Dup, api.Swap:
		return types(kind(api.None), kind(api.None))
	case api.New, api.To:
		return types(link.RefTo(i.Class))
	case api.Get:
		return types(fieldType(cs, i))
	case api.Call:
		return unlessNone(called(cs, i).Ret)
	case api.NewInts:
		return types(kind(api.Ints))
	case api.NewRefs:
		return types(api.Type{Kind: api.Refs, Name: i.Class})
	}
	return nil
}

func fieldType(cs *link.Classes, i api.Ins) api.Type {
	t, _ := cs.Field(i.Class, i.Member)
	return t
}

func called(cs *link.Classes, i api.Ins) api.Method {
	m, _ := cs.Method(i.Class, i.Member)
	return m
}

func unlessNone(t api.Type) []api.Type {
	if t.Kind == api.None {
		return nil
	}
	return types(t)
}

// Next tells the places at which an instruction goes on.
func Next(i api.Ins, at int) []int {
	switch i.Op {
	case api.Return, api.Throw:
		return nil
	case api.Jump:
		return []int{i.A}
	case api.IfZero, api.IfLess, api.IfSame:
		return []int{at + 1, i.A}
	}
	return []int{at + 1}
}

// Covers tells whether a place is in a handler's range.
func Covers(h api.Handler, at int) bool { return h.From <= at && at < h.To }

// Element gives the type of what is in an array of references, if there may be one of that type.
func Element(array api.Type) (api.Type, bool) {
	switch array.Kind {
	case api.Refs:
		return link.RefTo(array.Name), true
	case api.Null:
		return array, true
	}
	return api.Type{}, false
}
