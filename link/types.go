package link

import "warden/api"

// RefTo is the type of references of a class.
func RefTo(class string) api.Type { return api.Type{Kind: api.Ref, Name: class} }

// Under tells whether a type is under another.
func (cs *Classes) Under(t, other api.Type) bool {
	if t == other || other.Kind == api.None {
		return true
	}
	switch t.Kind {
	case api.Null:
		return other.Kind == api.Ref || other.Kind == api.Ints || other.Kind == api.Refs
	case api.Ref:
		return other.Kind == api.Ref && cs.Below(t.Name, other.Name)
	case api.Ints, api.Refs:
		return other == RefTo(Object)
	}
	return false
}

// Join gives the least type that both are under.
func (cs *Classes) Join(t, other api.Type) api.Type {
	if cs.Under(t, other) {
		return other
	}
	for !cs.Under(other, t) {
		t = cs.next(t)
	}
	return t
}

// next gives the least type above another: Null has several, but what Join goes up from is a Null only where it joins it with an Int.
func (cs *Classes) next(t api.Type) api.Type {
	switch {
	case t.Kind == api.Ints || t.Kind == api.Refs:
		return RefTo(Object)
	case t.Kind == api.Ref && t.Name != Object:
		return RefTo(cs.list[cs.numbers[t.Name]].Super)
	}
	return api.Type{}
}
