package table

import (
	"warden/api"
	"warden/link"
)

// IsThere tells whether there is all that an instruction needs.
func IsThere(cs *link.Classes, m api.Method, i api.Ins) bool {
	there := true
	switch i.Op {
	case api.Load, api.Store:
		there = i.A < m.Locals
	case api.Jump, api.IfZero, api.IfLess, api.IfSame:
		there = i.A < len(m.Code)
	case api.New, api.NewRefs, api.To, api.Is:
		there = cs.Has(i.Class)
	case api.Get, api.Put:
		_, there = cs.Field(i.Class, i.Member)
	case api.Call:
		_, there = cs.Method(i.Class, i.Member)
	}
	return there
}

// Fits tells whether an instruction, of which all is there, fits a stack and locals.
func Fits(cs *link.Classes, m api.Method, i api.Ins, stack, locals []api.Type) bool {
	effect := EffectOf(cs, m, i)
	if _, room := effect.Behind(len(stack), m.Stack); !room {
		return false
	}
	taken := stack[len(stack)-len(effect.Takes):]
	for k, t := range effect.Takes {
		if !cs.Under(taken[k], t) {
			return false
		}
	}
	return fitsBeyond(cs, i, taken, locals)
}

// fitsBeyond looks at what Takes can't tell, as it hangs on a local, or is no matter of being under one type.
func fitsBeyond(cs *link.Classes, i api.Ins, taken, locals []api.Type) bool {
	switch i.Op {
	case api.Load:
		return locals[i.A].Kind != api.None
	case api.Store:
		return taken[0].Kind != api.None
	case api.Length:
		return taken[0].Kind != api.Ref
	case api.GetRef:
		_, array := Element(taken[0])
		return array
	case api.PutRef:
		element, array := Element(taken[0])
		return array && (element.Kind == api.Null || cs.Under(taken[2], element))
	}
	return true
}
