package link

import (
	"slices"

	"warden/api"
)

// rule is what a class of a file, by its number in the list, may break. It is asked where all of them keep the rules ahead of it.
type rule struct {
	errno  api.Errno
	broken func(number int) bool
}

// Link gives the classes of the files, or else what is wrong with them, and the least file of which that is so (P6).
func Link(files []api.Class) (Classes, api.Errno, int) {
	cs := gather(files)
	for _, r := range cs.rules() {
		for file := range files {
			if r.broken(len(builtIn) + file) {
				return Classes{}, r.errno, file
			}
		}
	}
	return *cs, api.OK, 0
}

func (cs *Classes) rules() []rule {
	return []rule{
		{api.ErrTwice, cs.isTwice},
		{api.ErrSuper, cs.isWithoutSuper},
		{api.ErrLoop, cs.isInLoop},
		{api.ErrType, cs.hasWrongType},
		{api.ErrMember, cs.hasMemberTwice},
		{api.ErrOverride, cs.overridesWrongly},
	}
}

func (cs *Classes) isTwice(number int) bool {
	return cs.numbers[cs.list[number].Name] != number
}

func (cs *Classes) isWithoutSuper(number int) bool {
	return !cs.Has(cs.list[number].Super)
}

// isInLoop does not go on for ever where the class is below a loop without being in it.
func (cs *Classes) isInLoop(number int) bool {
	left := len(cs.list)
	for c := range cs.upward(cs.list[number].Super) {
		if c.Name == cs.list[number].Name {
			return true
		}
		if left--; left == 0 {
			break
		}
	}
	return false
}

func (cs *Classes) hasWrongType(number int) bool {
	c := cs.list[number]
	for _, f := range c.Fields {
		if !cs.isValueType(f.Type) {
			return true
		}
	}
	return slices.ContainsFunc(c.Methods, cs.namesNoClass)
}

// namesNoClass leaves the code alone: what is wrong there is not told until it is checked.
func (cs *Classes) namesNoClass(m api.Method) bool {
	for _, p := range m.Params {
		if !cs.isValueType(p) {
			return true
		}
	}
	for _, h := range m.Handlers {
		if !cs.Has(h.Class) {
			return true
		}
	}
	return m.Ret.Kind != api.None && !cs.isValueType(m.Ret)
}

func (cs *Classes) isValueType(t api.Type) bool {
	if t.Kind == api.Ref || t.Kind == api.Refs {
		return cs.Has(t.Name)
	}
	return t.Kind != api.None
}

func (cs *Classes) hasMemberTwice(number int) bool {
	c := cs.list[number]
	for i, f := range c.Fields {
		if _, above := cs.Field(c.Super, f.Name); above || cs.fields[member{c.Name, f.Name}] != i {
			return true
		}
	}
	for i, m := range c.Methods {
		if cs.methods[member{c.Name, m.Name}] != i {
			return true
		}
	}
	return false
}

func (cs *Classes) overridesWrongly(number int) bool {
	c := cs.list[number]
	for above := range cs.upward(c.Super) {
		for _, m := range c.Methods {
			if other, has := cs.OwnMethod(above.Name, m.Name); has && !isCalledAlike(m, other) {
				return true
			}
		}
	}
	return false
}

func isCalledAlike(m, other api.Method) bool {
	return m.Ret == other.Ret && slices.Equal(m.Params, other.Params)
}
