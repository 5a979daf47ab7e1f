package wire_test

import (
	"bytes"
	"math"
	"testing"

	"fieldpress/api"
	"fieldpress/wire"
)

func bits(number, how int, n uint64) api.Record {
	return api.Record{Number: number, How: how, Bits: n}
}

func sized(number int, b ...byte) api.Record {
	return api.Record{Number: number, How: api.Sized, Bytes: b}
}

func room(n int) []byte { return bytes.Repeat([]byte{'x'}, n) }

// records that are right: each with its bytes.
var records = []struct {
	r api.Record
	b []byte
}{
	{bits(1, api.Varint, 300), []byte{0x08, 0xac, 2}},
	{bits(1, api.Varint, 0), []byte{0x08, 0}},
	{bits(16, api.Varint, 1), []byte{0x80, 1, 1}},
	{bits(api.MaxNumber-1, api.Varint, math.MaxUint64), []byte{0xf8, 0xff, 0xff, 0xff, 0x0f, 0xff, 0xff, 0xff, 0xff, 0xff, 0xff, 0xff, 0xff, 0xff, 1}},
	{bits(1, api.Eight, 0x0102030405060708), []byte{0x09, 8, 7, 6, 5, 4, 3, 2, 1}},
	{bits(2, api.Eight, math.MaxUint64), []byte{0x11, 0xff, 0xff, 0xff, 0xff, 0xff, 0xff, 0xff, 0xff}},
	{bits(3, api.Four, 0x01020304), []byte{0x1d, 4, 3, 2, 1}},
	{bits(3, api.Four, math.MaxUint32), []byte{0x1d, 0xff, 0xff, 0xff, 0xff}},
	{sized(2, 'h', 'e', 'l', 'l', 'o'), []byte{0x12, 5, 'h', 'e', 'l', 'l', 'o'}},
	{sized(2), []byte{0x12, 0}},
	{sized(1, room(128)...), append([]byte{0x0a, 0x80, 1}, room(128)...)},
}

func TestA2WrongOfRightOnes(t *testing.T) {
	for _, x := range records {
		if err := wire.Wrong(x.r); err != api.OK {
			t.Errorf("Wrong(%v) = %d", x.r, err)
		}
	}
	for _, r := range []api.Record{
		sized(1, room(api.MaxBytes)...),
		{Number: 1, How: api.Varint, Bytes: []byte{}},
		{Number: 1, How: api.Four, Bytes: []byte{}},
		{Number: 1, How: api.Sized, Bytes: []byte{}},
	} {
		if err := wire.Wrong(r); err != api.OK {
			t.Errorf("Wrong of number %d, how %d, with %d bytes = %d", r.Number, r.How, len(r.Bytes), err)
		}
	}
}

func TestA2Wrong(t *testing.T) {
	for _, x := range []struct {
		why string
		r   api.Record
		err api.Errno
	}{
		{"how 3", bits(1, 3, 0), api.ErrKind},
		{"how 4", bits(1, 4, 0), api.ErrKind},
		{"how 6", bits(1, 6, 0), api.ErrKind},
		{"how 7", bits(1, 7, 0), api.ErrKind},
		{"how 8", bits(1, 8, 0), api.ErrKind},
		{"how -1", bits(1, -1, 0), api.ErrKind},
		{"too many bytes", sized(1, room(api.MaxBytes+1)...), api.ErrMuch},
		{"number 0", bits(0, api.Varint, 0), api.ErrRange},
		{"number below 0", bits(-1, api.Eight, 0), api.ErrRange},
		{"least number", bits(math.MinInt, api.Four, 0), api.ErrRange},
		{"number too large", bits(api.MaxNumber, api.Varint, 0), api.ErrRange},
		{"greatest number", sized(math.MaxInt), api.ErrRange},
		{"33 bits of Four", bits(1, api.Four, 1<<32), api.ErrRange},
		{"64 bits of Four", bits(1, api.Four, math.MaxUint64), api.ErrRange},
		{"bits of Sized", bits(1, api.Sized, 1), api.ErrFit},
		{"bytes of Varint", api.Record{Number: 1, How: api.Varint, Bytes: []byte{1}}, api.ErrFit},
		{"bytes of Eight", api.Record{Number: 1, How: api.Eight, Bytes: []byte{1}}, api.ErrFit},
		{"bytes of Four", api.Record{Number: 1, How: api.Four, Bytes: []byte{1}}, api.ErrFit},
		{"many bytes of Varint are none too much", api.Record{Number: 1, How: api.Varint, Bytes: room(api.MaxBytes + 1)}, api.ErrFit},
		{"kind ahead of range", api.Record{Number: 0, How: 3, Bits: 1, Bytes: room(api.MaxBytes + 1)}, api.ErrKind},
		{"much ahead of range", sized(0, room(api.MaxBytes+1)...), api.ErrMuch},
		{"much ahead of fit", api.Record{Number: 1, How: api.Sized, Bits: 1, Bytes: room(api.MaxBytes + 1)}, api.ErrMuch},
		{"range ahead of fit", api.Record{Number: 0, How: api.Sized, Bits: 1}, api.ErrRange},
		{"range of Four ahead of fit", api.Record{Number: 1, How: api.Four, Bits: 1 << 32, Bytes: []byte{1}}, api.ErrRange},
	} {
		if err := wire.Wrong(x.r); err != x.err {
			t.Errorf("%s: Wrong = %d, not %d", x.why, err, x.err)
		}
	}
}

func TestA2Tag(t *testing.T) {
	for _, x := range []struct {
		number, how int
		b           []byte
	}{
		{1, 0, []byte{7, 8}},
		{1, 7, []byte{7, 15}},
		{2, api.Sized, []byte{7, 18}},
		{15, 7, []byte{7, 127}},
		{16, 0, []byte{7, 0x80, 1}},
		{api.MaxNumber - 1, 0, []byte{7, 0xf8, 0xff, 0xff, 0xff, 0x0f}},
		{api.MaxNumber - 1, 7, []byte{7, 0xff, 0xff, 0xff, 0xff, 0x0f}},
	} {
		if b := wire.Tag([]byte{7}, x.number, x.how); !bytes.Equal(b, x.b) {
			t.Errorf("Tag(07, %d, %d) = %x, not %x", x.number, x.how, b, x.b)
		}
	}
	if b := wire.Tag(nil, 1, 2); !bytes.Equal(b, []byte{10}) {
		t.Errorf("Tag(nil, 1, 2) = %x", b)
	}
}

func TestA2Add(t *testing.T) {
	for _, x := range records {
		if b := wire.Add(nil, x.r); !bytes.Equal(b, x.b) {
			t.Errorf("Add(nil, %v) = %x, not %x", x.r, b, x.b)
		}
		want := append([]byte{1, 2}, x.b...)
		if b := wire.Add([]byte{1, 2}, x.r); !bytes.Equal(b, want) {
			t.Errorf("Add(0102, %v) = %x, not %x", x.r, b, want)
		}
	}
}

func TestA2AddOfBytesInTheSpareRoom(t *testing.T) {
	all := []byte{1, 2, 'a', 'b', 'c', 0, 0, 0, 0, 0}
	b := wire.Add(all[:2], sized(1, all[2:5]...))
	if want := []byte{1, 2, 10, 3, 'a', 'b', 'c'}; !bytes.Equal(b, want) {
		t.Errorf("Add = %x, not %x", b, want)
	}
}

func TestA2WhatIsHandedInStays(t *testing.T) {
	b, own := []byte{1, 2}, []byte{3, 4}
	c := wire.Add(b, sized(1, own...))
	own[0] = 9
	if !bytes.Equal(b, []byte{1, 2}) || !bytes.Equal(c, []byte{1, 2, 10, 2, 3, 4}) {
		t.Errorf("Add of %x = %x", b, c)
	}
}

func TestZ1NothingPanics(t *testing.T) {
	for _, number := range []int{math.MinInt, -1, 0, 1, api.MaxNumber, math.MaxInt} {
		for _, how := range []int{math.MinInt, -1, 0, 1, 2, 3, 4, 5, 6, 7, 8, math.MaxInt} {
			r := api.Record{Number: number, How: how, Bits: math.MaxUint64, Bytes: room(3)}
			wire.Wrong(r)
			wire.Tag(nil, number, how)
			wire.Add(nil, r)
			wire.Bytes([]api.Record{r, r})
		}
	}
}
