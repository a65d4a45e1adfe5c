// Package link puts the classes of files together, and tells what each of them answers to, and which type is under which.
package link

import (
	"iter"
	"slices"

	"warden/api"
)

// Names of classes that are built in, where a promise speaks of these.
const (
	Object = "Object"
	Throw  = "Throw"
)

var builtIn = [...]struct{ name, super string }{
	{Object, ""}, {Throw, Object},
	{"Nil", Throw}, {"Index", Throw}, {"Size", Throw}, {"Cast", Throw}, {"Zero", Throw}, {"Memory", Throw}, {"Depth", Throw},
}

// member is a field or a method that a class itself has.
type member struct{ class, name string }

// Classes are all those of a program.
type Classes struct {
	list    []api.Class    // those that are built in, then those of the files
	numbers map[string]int // of the classes in the list
	fields  map[member]int // their numbers in their class
	methods map[member]int
}

// gather lists the classes. Of several with one name the first counts, and so it is with members: the rules find the others by that.
func gather(files []api.Class) *Classes {
	cs := &Classes{numbers: map[string]int{}, fields: map[member]int{}, methods: map[member]int{}}
	for _, b := range builtIn {
		cs.add(api.Class{Name: b.name, Super: b.super})
	}
	for _, c := range files {
		cs.add(c)
	}
	return cs
}

func (cs *Classes) add(c api.Class) {
	putFirst(cs.numbers, c.Name, len(cs.list))
	for i, f := range c.Fields {
		putFirst(cs.fields, member{c.Name, f.Name}, i)
	}
	for i, m := range c.Methods {
		putFirst(cs.methods, member{c.Name, m.Name}, i)
	}
	cs.list = append(cs.list, c)
}

func putFirst[K comparable](numbers map[K]int, key K, n int) {
	if _, known := numbers[key]; !known {
		numbers[key] = n
	}
}

// upward goes from a class, if there is such a one, by way of the Supers, for ever if they run in a loop.
func (cs *Classes) upward(class string) iter.Seq[api.Class] {
	return func(yield func(api.Class) bool) {
		n, known := cs.numbers[class]
		for known && yield(cs.list[n]) {
			n, known = cs.numbers[cs.list[n].Super]
		}
	}
}

// Has tells whether there is a class of that name.
func (cs *Classes) Has(class string) bool {
	_, known := cs.numbers[class]
	return known
}

// Below tells whether a class is below another, or is it.
func (cs *Classes) Below(class, other string) bool {
	for c := range cs.upward(class) {
		if c.Name == other {
			return true
		}
	}
	return false
}

// Field gives the type of the field that a class, or else the nearest that it is below, has.
func (cs *Classes) Field(class, name string) (api.Type, bool) {
	for c := range cs.upward(class) {
		if i, has := cs.fields[member{c.Name, name}]; has {
			return c.Fields[i].Type, true
		}
	}
	return api.Type{}, false
}

// Fields lists what an object of a class has: the fields of the Super first.
func (cs *Classes) Fields(class string) []api.Field {
	var lists [][]api.Field
	for c := range cs.upward(class) {
		lists = append(lists, c.Fields)
	}
	slices.Reverse(lists)
	return slices.Concat(lists...)
}

// Width tells how many fields an object of a class has.
func (cs *Classes) Width(class string) int {
	n := 0
	for c := range cs.upward(class) {
		n += len(c.Fields)
	}
	return n
}

// Slot tells which of an object's fields that is which a class, or else the nearest that it is below, has: it is to have it.
func (cs *Classes) Slot(class, name string) int {
	for c := range cs.upward(class) {
		if i, has := cs.fields[member{c.Name, name}]; has {
			return cs.Width(c.Super) + i
		}
	}
	return 0
}

// Owner gives the class that has the method: a class, or else the nearest that it is below; or no name.
func (cs *Classes) Owner(class, method string) string {
	for c := range cs.upward(class) {
		if _, has := cs.methods[member{c.Name, method}]; has {
			return c.Name
		}
	}
	return ""
}

// Method gives the method that a class, or else the nearest that it is below, has.
func (cs *Classes) Method(class, name string) (api.Method, bool) {
	return cs.OwnMethod(cs.Owner(class, name), name)
}

// OwnMethod gives the method that a class itself has.
func (cs *Classes) OwnMethod(class, name string) (api.Method, bool) {
	i, has := cs.methods[member{class, name}]
	if !has {
		return api.Method{}, false
	}
	return cs.list[cs.numbers[class]].Methods[i], true
}
