package promises

import (
	"testing"

	"warden/api"
)

func TestP3Example(t *testing.T) {
	wantFile(t, example(), exampleFile)
	c := example()
	c.Methods[0].Code[0].A = -1
	wantFile(t, c, exampleFile[:len(exampleFile)-6]+"\xff\xff\xff\xff\x14\x00")
}

func TestP3Sample(t *testing.T) {
	wantFile(t, sample(), fileOf(sampleParts()))
}

func TestP3LeastFile(t *testing.T) {
	wantFile(t, api.Class{Name: "A", Super: "A"}, "W1\x01\x01A\x00\x00\x00\x00")
	wantFile(t, api.Class{Name: "0", Super: "zZ9"}, "W1\x02\x010\x03zZ9\x00\x01\x00\x00")
}

// TestP3PoolOrder: a name stands in the pool where it is first used, and the class's name of an instruction ahead of the member.
func TestP3PoolOrder(t *testing.T) {
	c := api.Class{Name: "a", Super: "b",
		Fields: []api.Field{{Name: "c", Type: api.Type{Kind: api.Ref, Name: "d"}}},
		Methods: []api.Method{{Name: "e", Params: []api.Type{{Kind: api.Refs, Name: "f"}}, Ret: api.Type{Kind: api.Ref, Name: "g"},
			Code:     []api.Ins{{Op: api.Call, Class: "h", Member: "i"}, {Op: api.To, Class: "j"}},
			Handlers: []api.Handler{{Class: "k"}}}, {Name: "l"}},
	}
	wantFile(t, c, fileOf(join(numbers('W', '1'), poolParts("a", "b", "c", "d", "e", "f", "g", "h", "i", "j", "k", "l"),
		numbers(0, 1, 1, 2, 2, 3, 2, 4, 1, 4, 5, 2, 6, 0, 0, 0, 2, 19, 7, 8, 28, 9, 1, 0, 0, 0, 0, 0, 0, 10, 11, 0, 0, 0, 0, 0, 0, 0))))
}

// TestP3HighByteFirst: of the numbers of two bytes, how many instructions there are among them.
func TestP3HighByteFirst(t *testing.T) {
	c := example()
	c.Methods[0].Code = make([]api.Ins, 258)
	c.Methods[0].Handlers = []api.Handler{{From: 1 << 8, To: 2<<8 + 1, At: 3, Class: "A"}}
	file := exampleFile[:len(exampleFile)-9] + "\x01\x02" + string(make([]byte, 258*5)) + "\x01\x01\x00\x02\x01\x00\x03\x00"
	wantFile(t, c, file)
}
