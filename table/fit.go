package table

import (
	"warden/api"
	"warden/link"
)

// IsThere tells whether there is all that an instruction needs.
func IsThere(cs *link.Classes, m api.Method, i api.Ins) bool {
	there := true
	switch i.Op {
	case api.Load, api.Store:
		there = i.A < m.Locals
	case api.Jump, api.IfZero, api.IfLess, api.IfSame:
		there = i.A < len(m.Code)
	case api.New, api.NewRefs, api.To, api.Is:
		there = cs.Has(i.Class)
	case api.Get, api.Put:
		_, there = cs.Field(i.Class, i.Member)
	case api.Call:
		_, there = cs.Method(i.Class, i.Member)
	}
	return there
}

// Fits tells whether an instruction, of which all is there, fits a stack and locals. typeOf is asked for the types of those values alone that count.
func Fits[V any](cs *link.Classes, m api.Method, i api.Ins, stack, locals []V, typeOf func(V) api.Type) bool {
	effect := EffectOf(cs, m, i)
	if _, room := effect.Behind(len(stack), m.Stack); !room {
		return false
	}
	if i.Op == api.Load {
		return typeOf(locals[i.A]).Kind != api.None
	}
	var taken []api.Type
	for k, v := range stack[len(stack)-len(effect.Takes):] {
		t := typeOf(v)
		if !cs.Under(t, effect.Takes[k]) {
			return false
		}
		taken = append(taken, t)
	}
	return fitsBeyond(cs, i, taken)
}

// fitsBeyond looks at what Takes can't tell, as it is no matter of being under one type.
func fitsBeyond(cs *link.Classes, i api.Ins, taken []api.Type) bool {
	switch i.Op {
	case api.Store:
		return taken[0].Kind != api.None
	case api.Length:
		return taken[0].Kind != api.Ref
	case api.GetRef:
		_, array := Element(taken[0])
		return array
	case api.PutRef:
		element, array := Element(taken[0])
		return array && (element.Kind == api.Null || cs.Under(taken[2], element))
	}
	return true
}
