package machine

import "warden/api"

// maker makes a machine's words: those of a fast one carry no tags.
type maker struct{ fast bool }

func (k maker) word(tag, v int) api.Word {
	if k.fast {
		tag = api.NoWord
	}
	return api.Word{Tag: tag, V: v}
}

func (k maker) whole(n int) api.Word { return k.word(api.IntWord, n) }

func (k maker) null() api.Word { return k.word(api.NullWord, nowhere) }

func (k maker) address(address int) api.Word { return k.word(api.AddrWord, address) }

// blank is what a field of a type is at first.
func (k maker) blank(t api.Type) api.Word {
	if t.Kind == api.Int {
		return k.whole(0)
	}
	return k.null()
}

// isNull asks for a word that is null or an address: by its tag a fast machine could not tell.
func isNull(w api.Word) bool { return w.V == nowhere }
