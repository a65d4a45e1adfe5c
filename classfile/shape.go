// Package classfile reads and writes the files of classes.
package classfile

import "warden/api"

// mark is what each file begins with.
const mark = "W1"

// shape tells what stands behind an Op in a file, in this order.
type shape struct {
	width  int // bytes of A, 0 where none is needed
	class  bool
	member bool
}

// shapes has one row for each Op: a number that is not below its length is no Op.
var shapes = [api.Print + 1]shape{
	api.Push:    {width: 4},
	api.Load:    {width: 1},
	api.Store:   {width: 1},
	api.Jump:    {width: 2},
	api.IfZero:  {width: 2},
	api.IfLess:  {width: 2},
	api.IfSame:  {width: 2},
	api.New:     {class: true},
	api.Get:     {class: true, member: true},
	api.Put:     {class: true, member: true},
	api.Call:    {class: true, member: true},
	api.NewRefs: {class: true},
	api.To:      {class: true},
	api.Is:      {class: true},
}

// hasName tells whether a class's name stands behind a type of that kind.
func hasName(kind int) bool { return kind == api.Ref || kind == api.Refs }

func isName(s string) bool {
	if len(s) < 1 || len(s) > api.MaxName {
		return false
	}
	for i := range len(s) {
		if !isNameByte(s[i]) {
			return false
		}
	}
	return true
}

func isNameByte(b byte) bool {
	return 'a' <= b && b <= 'z' || 'A' <= b && b <= 'Z' || '0' <= b && b <= '9'
}
