package machine

import "warden/api"

// Addresses of the objects that are there from the start, to be thrown by what throws of itself.
const (
	nowhere = iota // no thing has this address
	nilAt
	indexAt
	sizeAt
	castAt
	zeroAt
	memoryAt
	depthAt
)

// thrownOfItself has the classes of these objects, by address.
var thrownOfItself = [...]string{
	nilAt: "Nil", indexAt: "Index", sizeAt: "Size", castAt: "Cast", zeroAt: "Zero", memoryAt: "Memory", depthAt: "Depth",
}

var null = api.Word{Tag: api.NullWord}

func intWord(n int) api.Word { return api.Word{Tag: api.IntWord, V: n} }

func addressWord(address int) api.Word { return api.Word{Tag: api.AddrWord, V: address} }

// blank is what a field of a type, or an element, is at first.
func blank(t api.Type) api.Word {
	if t.Kind == api.Int {
		return intWord(0)
	}
	return null
}

// heap has things at the addresses from 1 on.
type heap struct {
	things []api.Thing
	room   int // how much may be taken still
}

// add lays a thing at the next address, and takes no room for it.
func (h *heap) add(t api.Thing) api.Word {
	h.things = append(h.things, t)
	return addressWord(len(h.things))
}

// take takes the room of a thing with so many words, if there is as much.
func (h *heap) take(words int) bool {
	if words >= h.room {
		return false
	}
	h.room -= 1 + words
	return true
}

func (h *heap) at(address int) *api.Thing { return &h.things[address-1] }

func (h *heap) typeOf(w api.Word) api.Type {
	switch w.Tag {
	case api.IntWord:
		return api.Type{Kind: api.Int}
	case api.NullWord:
		return api.Type{Kind: api.Null}
	case api.AddrWord:
		t := h.at(w.V)
		return api.Type{Kind: t.Kind, Name: t.Class}
	}
	return api.Type{}
}
