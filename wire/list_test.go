package wire_test

import (
	"bytes"
	"math"
	"testing"

	"fieldpress/api"
	"fieldpress/wire"
)

func checkBytes(t *testing.T, why string, l []api.Record, want []byte, fault api.Fault) {
	t.Helper()
	b, f := wire.Bytes(l)
	if !bytes.Equal(b, want) || f != fault {
		t.Errorf("%s: Bytes = %x, %v, not %x, %v", why, b, f, want, fault)
	}
}

func equal(a, b []api.Record) bool {
	if len(a) != len(b) {
		return false
	}
	for i, x := range a {
		y := b[i]
		if x.Number != y.Number || x.How != y.How || x.Bits != y.Bits || !bytes.Equal(x.Bytes, y.Bytes) {
			return false
		}
	}
	return true
}

func checkParse(t *testing.T, why string, b []byte, want []api.Record, fault api.Fault) {
	t.Helper()
	l, f := wire.Parse(b)
	if !equal(l, want) || f != fault {
		t.Errorf("%s: Parse = %v, %v, not %v, %v", why, l, f, want, fault)
	}
}

// all: the records that are right, and their bytes, in turn.
func all() (l []api.Record, b []byte) {
	for _, x := range records {
		l = append(l, x.r)
		b = append(b, x.b...)
	}
	return l, b
}

func TestA3BytesAndParse(t *testing.T) {
	l, b := all()
	checkBytes(t, "all", l, b, api.Fault{})
	checkParse(t, "all", b, l, api.Fault{})
	checkBytes(t, "nil", nil, nil, api.Fault{})
	checkBytes(t, "empty", []api.Record{}, nil, api.Fault{})
	checkParse(t, "nil", nil, nil, api.Fault{})
	checkParse(t, "empty", []byte{}, nil, api.Fault{})
}

func TestA3BytesTellsTheFirstFault(t *testing.T) {
	right := bits(1, api.Varint, 1)
	full := sized(1, room(api.MaxBytes-3)...)
	for _, x := range []struct {
		why string
		l   []api.Record
		f   api.Fault
	}{
		{"kind", []api.Record{right, bits(1, 3, 0), bits(0, 0, 0)}, api.Fault{Err: api.ErrKind, At: 1}},
		{"range", []api.Record{right, right, bits(0, 0, 0), bits(1, 3, 0)}, api.Fault{Err: api.ErrRange, At: 2}},
		{"fit", []api.Record{bits(1, api.Sized, 1)}, api.Fault{Err: api.ErrFit}},
		{"much of one", []api.Record{right, sized(1, room(api.MaxBytes+1)...)}, api.Fault{Err: api.ErrMuch, At: 1}},
		{"much of a right one", []api.Record{sized(1, room(api.MaxBytes)...)}, api.Fault{Err: api.ErrMuch}},
		{"much in all", []api.Record{full, right, right}, api.Fault{Err: api.ErrMuch, At: 1}},
		{"much ahead of what follows", []api.Record{full, right, bits(1, 3, 0)}, api.Fault{Err: api.ErrMuch, At: 1}},
		{"wrong ahead of much in all", []api.Record{full, bits(0, api.Eight, 0)}, api.Fault{Err: api.ErrRange, At: 1}},
	} {
		checkBytes(t, x.why, x.l, nil, x.f)
	}
}

func TestA3MaxBytesAreNotTooMany(t *testing.T) {
	r := sized(1, room(api.MaxBytes-3)...)
	b := append([]byte{10, 0x9d, 0x1f}, room(api.MaxBytes-3)...)
	checkBytes(t, "as many as may be", []api.Record{r}, b, api.Fault{})
	checkParse(t, "as many as may be", b, []api.Record{r}, api.Fault{})

	var l []api.Record
	for range api.MaxBytes / 2 {
		l = append(l, bits(1, api.Varint, 0))
	}
	b = bytes.Repeat([]byte{8, 0}, api.MaxBytes/2)
	checkBytes(t, "many small ones", l, b, api.Fault{})
	checkParse(t, "many small ones", b, l, api.Fault{})
	checkBytes(t, "one more", append(l, l[0]), nil, api.Fault{Err: api.ErrMuch, At: len(l)})
	checkParse(t, "one more", append(b, 8, 0), nil, api.Fault{Err: api.ErrMuch})
	checkParse(t, "much ahead of all else", make([]byte, api.MaxBytes+1), nil, api.Fault{Err: api.ErrMuch})
}

func TestA3ParseOfWhatEndsEarly(t *testing.T) {
	for _, x := range records {
		b := append([]byte{8, 5}, x.b...)
		for k := range x.b {
			want, fault := []api.Record(nil), api.Fault{Err: api.ErrForm, At: 2}
			if k == 0 {
				want, fault = []api.Record{bits(1, api.Varint, 5)}, api.Fault{}
			}
			checkParse(t, "ends early", b[:2+k], want, fault)
			checkParse(t, "ends early, with no spare room", bytes.Clone(b[:2+k]), want, fault)
		}
	}
}

func TestA3ParseTellsTheFirstFault(t *testing.T) {
	long := func(head ...byte) []byte { return append(head, chain(9, 2)...) }
	for _, x := range []struct {
		why string
		b   []byte
		err api.Errno
	}{
		{"tag too long", long(), api.ErrRange},
		{"tag without end", []byte{0x80}, api.ErrForm},
		{"number 0", []byte{0, 0}, api.ErrRange},
		{"number 0 ahead of its kind", []byte{3}, api.ErrRange},
		{"number too large", []byte{0x80, 0x80, 0x80, 0x80, 0x10, 0}, api.ErrRange},
		{"number too large ahead of its kind", []byte{0x83, 0x80, 0x80, 0x80, 0x10, 0}, api.ErrRange},
		{"greatest tag", chain(0, 0xff, 0xff, 0xff, 0xff, 0xff, 0xff, 0xff, 0xff, 0xff, 1), api.ErrRange},
		{"number that is right in its low 32 bits", wire.Put(nil, 1<<35|8), api.ErrRange},
		{"how 3", []byte{11, 0}, api.ErrKind},
		{"how 4", []byte{12, 0}, api.ErrKind},
		{"how 6", []byte{14, 0}, api.ErrKind},
		{"how 7 ahead of its end", []byte{15}, api.ErrKind},
		{"Varint too long", long(8), api.ErrRange},
		{"Varint without end", []byte{8, 0x80}, api.ErrForm},
		{"Sized without a size", []byte{10}, api.ErrForm},
		{"Sized, its size too long", long(10), api.ErrRange},
		{"Sized, its size without end", []byte{10, 0x80}, api.ErrForm},
		{"Sized of fewer bytes", []byte{10, 2, 1}, api.ErrForm},
		{"Sized of as many as can be told", wire.Put([]byte{10}, math.MaxUint64), api.ErrForm},
		{"Sized of 2^63", wire.Put([]byte{10}, 1<<63), api.ErrForm},
		{"Eight of fewer bytes", []byte{9, 1, 2, 3, 4, 5, 6, 7}, api.ErrForm},
		{"Four of fewer bytes", []byte{13, 1, 2, 3}, api.ErrForm},
	} {
		checkParse(t, x.why, x.b, nil, api.Fault{Err: x.err})
		behind := append([]byte{8, 1, 10, 1, 7}, x.b...)
		checkParse(t, x.why+", behind others", behind, nil, api.Fault{Err: x.err, At: 5})
	}
}

func TestA3ParseOfNumbersWithMoreBytesThanNeeded(t *testing.T) {
	b := []byte{0x88, 0x80, 0, 0x85, 0, 0x8a, 0, 0x81, 0x80, 0, 7}
	checkParse(t, "long ones", b, []api.Record{bits(1, api.Varint, 5), sized(1, 7)}, api.Fault{})
}

func TestA3ParseAnswersNewMemory(t *testing.T) {
	b := []byte{10, 2, 1, 2, 10, 2, 3, 4}
	l, _ := wire.Parse(b)
	clear(b)
	if !equal(l, []api.Record{sized(1, 1, 2), sized(1, 3, 4)}) {
		t.Fatalf("what was parsed hangs on what was handed in: %v", l)
	}
	first := l[0].Bytes
	clear(first[:cap(first)])
	if !bytes.Equal(l[1].Bytes, []byte{3, 4}) || !bytes.Equal(b, make([]byte, 8)) {
		t.Errorf("a record's bytes share memory: %v, %x", l, b)
	}
}

func TestA3BytesAnswersNewMemory(t *testing.T) {
	own := []byte{1, 2}
	l := []api.Record{sized(1, own...)}
	b, _ := wire.Bytes(l)
	clear(b[:cap(b)])
	if !bytes.Equal(own, []byte{1, 2}) || !equal(l, []api.Record{sized(1, 1, 2)}) {
		t.Errorf("what was handed in is changed: %v", l)
	}
}

// What is parsed of any bytes is right, and is the same when it is written and parsed again.
func FuzzA3ParseOfAnyBytes(f *testing.F) {
	_, b := all()
	f.Add(b)
	for _, x := range records {
		f.Add(x.b)
	}
	f.Add(chain(20, 1))
	f.Fuzz(func(t *testing.T, b []byte) {
		l, w := wire.Parse(b)
		if w.Err != api.OK {
			if len(l) != 0 || w.At < 0 || len(b) > 0 && w.At >= len(b) {
				t.Fatalf("Parse(%x) = %v, %v", b, l, w)
			}
			return
		}
		c, w := wire.Bytes(l)
		if w.Err != api.OK || len(c) > len(b) {
			t.Fatalf("Bytes(%v) = %x, %v", l, c, w)
		}
		checkParse(t, "again", c, l, api.Fault{})
	})
}
