package machine

import "warden/api"

// Addresses of the objects that are there from the start, to be thrown by what throws of itself.
const (
	nowhere = iota // no thing has this address: null has it, and what throws nothing
	nilAt
	indexAt
	sizeAt
	castAt
	zeroAt
	memoryAt
	depthAt
)

// thrownOfItself has the classes of these objects, by address.
var thrownOfItself = [...]string{
	nilAt: "Nil", indexAt: "Index", sizeAt: "Size", castAt: "Cast", zeroAt: "Zero", memoryAt: "Memory", depthAt: "Depth",
}

// heap has things at the addresses from 1 on.
type heap struct {
	things []api.Thing
	room   int // how much may be taken still
}

// add lays a thing at the next address, which it gives, and takes no room for it.
func (h *heap) add(t api.Thing) int {
	h.things = append(h.things, t)
	return len(h.things)
}

// take takes the room of a thing with so many words, if there is as much.
func (h *heap) take(words int) bool {
	if words >= h.room {
		return false
	}
	h.room -= 1 + words
	return true
}

func (h *heap) at(address int) *api.Thing { return &h.things[address-1] }

func (h *heap) typeAt(address int) api.Type {
	t := h.at(address)
	return api.Type{Kind: t.Kind, Name: t.Class}
}

// typeOf is for words with tags alone.
func (h *heap) typeOf(w api.Word) api.Type {
	switch w.Tag {
	case api.IntWord:
		return api.Type{Kind: api.Int}
	case api.NullWord:
		return api.Type{Kind: api.Null}
	case api.AddrWord:
		return h.typeAt(w.V)
	}
	return api.Type{}
}
