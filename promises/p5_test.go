package promises

import (
	"strings"
	"testing"

	"warden/api"
	"warden/warden"
)

// eachPart calls look with each part of the sample's file and where it begins.
func eachPart(look func(p part, at int)) {
	at := 0
	for _, p := range sampleParts() {
		look(p, at)
		at += len(p.bytes)
	}
}

// changed: the file with another byte at a place.
func changed(file string, at, b int) string { return file[:at] + bytesOf(b) + file[at+1:] }

func TestP5Short(t *testing.T) {
	file := fileOf(sampleParts())
	for i := range file {
		wantFault(t, file[:i], api.ErrShort, i)
	}
	wantFault(t, "", api.ErrShort, 0)
}

func TestP5Mark(t *testing.T) {
	file := fileOf(sampleParts())
	for b := range 256 {
		if b != 'W' {
			wantFault(t, changed(file, 0, b), api.ErrForm, 0)
			wantFault(t, bytesOf(b), api.ErrForm, 0)
		}
		if b != '1' {
			wantFault(t, changed(file, 1, b), api.ErrForm, 1)
			wantFault(t, bytesOf('W', b), api.ErrForm, 1)
		}
	}
	wantFault(t, "1W", api.ErrForm, 0)
}

func TestP5TypesAndOps(t *testing.T) {
	file := fileOf(sampleParts())
	eachPart(func(p part, at int) {
		least := 256
		switch p.what {
		case typeByte:
			least = 5
		case opByte:
			least = 32
		}
		for b := least; b < 256; b++ {
			wantFault(t, changed(file, at, b), api.ErrForm, at)
			wantFault(t, changed(file, at, b)[:at+1], api.ErrForm, at)
		}
	})
}

// TestP5NameNumbers: a name's number is one that was used, or the next one, if there is such a name.
func TestP5NameNumbers(t *testing.T) {
	file := fileOf(sampleParts())
	greatest := -1
	eachPart(func(p part, at int) {
		if p.what != nameByte {
			return
		}
		for b := min(greatest+2, len(sampleNames)); b < 256; b++ {
			wantFault(t, changed(file, at, b), api.ErrPool, at)
			wantFault(t, changed(file, at, b)[:at+1], api.ErrPool, at)
		}
		greatest = max(greatest, int(p.bytes[0]))
	})
}

// TestP5PoolNames: a name in the pool that is none, or stands there already.
func TestP5PoolNames(t *testing.T) {
	eachPart(func(p part, at int) {
		if p.what != poolByte {
			return
		}
		file := fileOf(sampleParts())
		for _, bad := range badNames() {
			if len(bad) > 255 {
				continue
			}
			f := file[:at] + bytesOf(len(bad)) + bad + file[at+1+int(p.bytes[0]):]
			wantFault(t, f, api.ErrName, at)
			wantFault(t, f[:at+1+len(bad)], api.ErrName, at)
			if len(bad) > 0 {
				wantFault(t, f[:at+len(bad)], api.ErrShort, at+len(bad))
			}
		}
		for _, n := range sampleNames {
			if before := file[:at]; strings.Contains(before, bytesOf(len(n))+n) {
				wantFault(t, before+bytesOf(len(n))+n+file[at:], api.ErrName, at)
			}
		}
	})
}

// TestP5LongNames: of a name whose bytes are not all there it is told that the file is short, however many there should be.
func TestP5LongNames(t *testing.T) {
	for n := 1; n < 256; n++ {
		all := strings.Repeat("a", n)
		wantFault(t, "W1\x01"+bytesOf(n), api.ErrShort, 4)
		wantFault(t, "W1\x01"+bytesOf(n)+all[:n-1], api.ErrShort, 3+n)
		wantFault(t, "W1\x01"+bytesOf(n)+strings.Repeat("-", n-1), api.ErrShort, 3+n)
		if n > 12 {
			wantFault(t, "W1\x01"+bytesOf(n)+all, api.ErrName, 3)
		} else {
			wantFault(t, "W1\x01"+bytesOf(n)+all, api.ErrShort, 4+n)
			wantFile(t, api.Class{Name: all, Super: all}, "W1\x01"+bytesOf(n)+all+"\x00\x00\x00\x00")
		}
	}
}

func TestP5End(t *testing.T) {
	file := fileOf(sampleParts())
	for b := range 256 {
		wantFault(t, file+bytesOf(b), api.ErrMore, len(file))
		wantFault(t, file+bytesOf(b)+"more", api.ErrMore, len(file))
	}
	wantFault(t, file+file, api.ErrMore, len(file))
	none := "W1\x01\x01A\x00\x00\x00\x00"
	wantFault(t, none+"\x00", api.ErrMore, len(none))
	unused := "W1\x02\x01A\x01B\x00\x00\x00\x00"
	wantFault(t, unused, api.ErrPool, len(unused))
	wantFault(t, unused+"\x00\x00\x00", api.ErrPool, len(unused)+3)
	wantFault(t, unused[:len(unused)-1], api.ErrShort, len(unused)-1)
	wantFault(t, "W1\x03\x01A\x01B\x01C\x00\x01\x00\x00", api.ErrPool, 13)
	wantFault(t, "W1\x00", api.ErrShort, 3)
	wantFault(t, "W1\x00\x00", api.ErrPool, 3)
}

func TestP5Long(t *testing.T) {
	most := fileOf(join(numbers('W', '1'), poolParts("A"), names(0, 0), numbers(0, 1), names(0), numbers(0), kind(0), numbers(0, 0, 7, 239))) + strings.Repeat("\x04", 2031) + "\x00"
	wantFile(t, pops(2031), most)
	wantFault(t, most+"\x00", api.ErrLong, 0)
	wantFault(t, "V"+most, api.ErrLong, 0)
	wantFault(t, most[1:]+"1", api.ErrForm, 0)
	wantFault(t, strings.Repeat("W", 1<<20), api.ErrLong, 0)
	wantFault(t, most[:2046]+"\x20\x00", api.ErrForm, 2046)
	// 65535 instructions are told of, a few are there
	short := most[:14] + "\xff\xff" + strings.Repeat("\x04", 2032)
	wantFault(t, short, api.ErrShort, 2048)
}

// TestP5FirstMet: of two faults the one that is met first is told, be it of what kind it may.
func TestP5FirstMet(t *testing.T) {
	for _, x := range []struct {
		file string
		e    api.Errno
		at   int
	}{
		{"W2\x01\x00", api.ErrForm, 1},
		{"W1\x02\x01-\x09ab", api.ErrName, 3},
		{"W1\x02\x09ab\x01-", api.ErrShort, 8},
		{"W1\x02\x01a\x01a\x01\x01", api.ErrName, 5},
		{"W1\x01\x01A\x01\x00\x01\x00\x05", api.ErrPool, 5},
		{"W1\x01\x01A\x00\x00\x01\x00\x05\x01\x07", api.ErrForm, 9},
		{"W1\x02\x01A\x01B\x00\x00\x01\x00\x05", api.ErrForm, 11},
		{"W1\x02\x01A\x01B\x00\x00\x01\x00", api.ErrShort, 11},
		{"W1\x01\x01A\x00\x00\x00\x01\x00\x00\x00\x00\x00\x00\x02\x20\x21", api.ErrForm, 16},
		{"W1\x01\x01A\x00\x00\x00\x01\x00\x00\x00\x00\x00\x00\x02\x10\x01\x20", api.ErrPool, 17},
		{"W1\x01\x01A\x00\x00\x00\x01\x00\x00\x00\x00\x00\x00\x02\x0c\x00", api.ErrShort, 18},
		{"W1\x01\x01A\x00\x00\x00\x01\x00\x00\x00\x00\x00\x00\x00\x01\x00\x00\x00\x00\x00\x00\x01", api.ErrPool, 23},
	} {
		wantFault(t, x.file, x.e, x.at)
	}
}

// TestP5Back: whatever is read is written back as it stood, and whatever is not has its place.
func TestP5Back(t *testing.T) {
	file := fileOf(sampleParts())
	for at := range file {
		for b := range 256 {
			wantBack(t, changed(file, at, b))
		}
		wantBack(t, file[:at]+file[at+1:])
		wantBack(t, file[:at]+file[at:at+1]+file[at:])
	}
}

func wantBack(t *testing.T, file string) {
	t.Helper()
	c, e, at := warden.Decode(file)
	if e == api.OK {
		if s, back := warden.Encode(c); back != api.OK || s != file || at != 0 {
			t.Errorf("Decode(%q) = %d, but Encode = %q, %d", file, at, s, back)
		}
		return
	}
	if e < api.ErrShort || e > api.ErrMore || at < 0 || at > len(file) || e == api.ErrShort && at != len(file) || !sameClass(c, api.Class{}) {
		t.Errorf("Decode(%q) = %s, %d, %d", file, show(c), e, at)
	}
}
