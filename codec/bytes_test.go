package codec_test

import (
	"bytes"
	"math"
	"strings"
	"testing"

	"fieldpress/api"
	"fieldpress/body"
	"fieldpress/codec"
)

// checkBytes has x, a body of message msg of f, be written as want, in memory of its own.
func checkBytes(t *testing.T, f api.File, msg int, x api.Body, want []byte, err api.Errno) {
	t.Helper()
	checkOnlyRead(t, x, func(x api.Body) {
		got, gotErr := codec.Bytes(f, msg, x)
		if gotErr != err || !bytes.Equal(got, want) {
			t.Errorf("Bytes(%+v) = %x, %d, not %x, %d", x, got, gotErr, want, err)
		}
		checkNew(t, got, x, f)
	})
}

// writes has x, a body of message msg of the ordinary file, be written as these bytes, and be read from them.
func writes(t *testing.T, msg int, x api.Body, want string) {
	t.Helper()
	checkBytes(t, linked(ordinary), msg, x, hexed(want), api.OK)
	reads(t, msg, want, x)
}

func TestE1BytesOfNumbers(t *testing.T) {
	const a = 0
	writes(t, a, api.Body{}, "")
	writes(t, a, api.Body{Values: []api.Value{}, Unknown: []api.Record{}}, "")
	for _, x := range []struct {
		v    api.Value
		want string
	}{
		{bits(1, 1), "08 01"},
		{bits(1, 300), "08 ac02"},
		{bits(1, minus), "08 ffffffffffffffffff01"},
		{bits(1, 1<<63), "08 80808080808080808001"},
		{bits(2, 1), "10 02"},
		{bits(2, minus), "10 01"},
		{bits(2, minus-1), "10 03"},
		{bits(2, 64), "10 8001"},
		{bits(2, 1<<63), "10 ffffffffffffffffff01"},
		{bits(2, 1<<63-1), "10 feffffffffffffffff01"},
		{bits(3, 1), "18 01"},
		{bits(3, minus), "18 ffffffffffffffffff01"},
		{bits(4, 1), "20 01"},
		{bits(5, 1), "28 01"},
		{bits(5, 77), "28 4d"}, // of no item
		{bits(5, 1<<31-1), "28 ffffffff07"},
		{bits(5, minus), "28 ffffffffffffffffff01"},
		{bits(5, 1<<64-1<<31), "28 80808080f8ffffffff01"},
		{bits(6, 1), "31 0100000000000000"},
		{bits(6, 0x0102030405060708), "31 0807060504030201"},
		{bits(6, minus), "31 ffffffffffffffff"},
		{bits(7, 1), "3d 01000000"},
		{bits(7, 0x01020304), "3d 04030201"},
		{bits(7, 1<<32-1), "3d ffffffff"},
		{bits(20, 0), "a001 00"},
		{bits(20, minus), "a001 ffffffffffffffffff01"},
	} {
		writes(t, a, of(x.v), x.want)
	}
}

func TestE1BytesOfManyNumbers(t *testing.T) {
	const a, b = 0, 1
	writes(t, a, of(bits(11, 1)), "5a 01 01")
	writes(t, a, of(bits(11, 0)), "5a 01 00")
	writes(t, a, of(bits(11, 1, 0, 0, 1)), "5a 04 01000001")
	writes(t, b, of(bits(1, 1, 300, minus)), "0a 0d 01 ac02 ffffffffffffffffff01")
	writes(t, b, of(bits(2, 1, 2)), "12 02 02 04")
	writes(t, b, of(bits(2, minus, 0, 1<<63)), "12 0c 01 00 ffffffffffffffffff01")
	writes(t, b, of(bits(3, 127, 128)), "1a 03 7f 8001")
	writes(t, b, of(bits(5, minus, 1)), "2a 0b ffffffffffffffffff01 01")
	writes(t, b, of(bits(6, 1, minus)), "32 10 0100000000000000 ffffffffffffffff")
	writes(t, b, of(bits(7, 1, 1<<32-1, 0)), "3a 0c 01000000 ffffffff 00000000")
	writes(t, a, of(bits(11, repeat(api.MaxValues, uint64(0))...)), "5a 3c"+strings.Repeat("00", api.MaxValues))
	// More bytes than a number of one byte tells.
	tens := repeat(api.MaxValues, uint64(minus))
	got, err := codec.Bytes(linked(ordinary), b, of(bits(1, tens...)))
	if err != api.OK || len(got) != 3+10*api.MaxValues || !bytes.HasPrefix(got, hexed("0a d804 ff")) {
		t.Errorf("Bytes of %d numbers of ten bytes = %x, %d", len(tens), got, err)
	}
}

func TestE1BytesOfTextsAndSubs(t *testing.T) {
	const a, b = 0, 1
	writes(t, a, of(texts(8, "hé")), "42 03 68c3a9")
	writes(t, a, of(texts(9, "\xff\x00")), "4a 02 ff00")
	writes(t, a, of(texts(12, "x", "", "yz")), "62 01 78 62 00 62 02 797a")
	writes(t, b, of(texts(9, "\xff", "")), "4a 01 ff 4a 00")
	writes(t, a, of(texts(21, "")), "aa01 00")
	writes(t, a, of(texts(8, long(200))), "42 c801 "+hexOf(long(200)))
	writes(t, a, of(subs(10, of())), "52 00")
	writes(t, a, of(subs(10, of(bits(1, 1), texts(8, "x")))), "52 05 08 01 42 01 78")
	writes(t, a, of(subs(13, of(), of(bits(1, 1)), of())), "6a 00 6a 02 08 01 6a 00")
	writes(t, a, of(subs(22, of(bits(20, 0)))), "b201 03 a001 00")
	writes(t, a, nested(10, 4, of(bits(11, 1))), "52 07 52 05 52 03 5a 01 01")
	writes(t, a, of(subs(10, of(texts(8, long(200))))), "52 cb01 42 c801 "+hexOf(long(200)))
	// By the message that the field is of: 1 is Many in B, not in A.
	writes(t, b, of(subs(24, of(bits(1, 1)))), "c201 02 08 01")
	writes(t, b, of(subs(25, of(bits(1, 1)))), "ca01 03 0a 01 01")
}

func TestE1BytesOfUnknown(t *testing.T) {
	const a = 0
	one, two := api.Record{Number: 99, Bits: 1}, api.Record{Number: 30, How: api.Sized, Bytes: []byte("v")}
	three, four := api.Record{Number: 14, How: api.Eight, Bits: 2}, api.Record{Number: 15, How: api.Four, Bits: 3}
	writes(t, a, withUnknown(of(), one, two, three, four, one), "9806 01 f201 01 76 71 0200000000000000 7d 03000000 9806 01")
	// Behind all values, however small its number.
	writes(t, a, withUnknown(of(bits(1, 5), texts(21, "a")), three, one), "08 05 aa01 01 61 71 0200000000000000 9806 01")
	// Each body's own, behind its own values.
	writes(t, a, withUnknown(of(subs(10, withUnknown(of(bits(1, 1)), one)), bits(20, 0)), two), "52 05 08 01 9806 01 a001 00 f201 01 76")
	writes(t, a, withUnknown(of(subs(13, withUnknown(of(), one), withUnknown(of(), four)))), "6a 03 9806 01 6a 05 7d 03000000")
}

func TestE1BytesOfAllAtOnce(t *testing.T) {
	const b = 1
	writes(t, b, of(bits(1, 1), bits(2, 1), texts(9, "a"), bits(18, 0), texts(20, ""), subs(25, of(bits(7, 1)))),
		"0a 01 01 12 01 02 4a 01 61 9001 00 a201 00 ca01 06 3a 04 01000000")
}

func TestE1BytesOfMuch(t *testing.T) {
	f := linked(ordinary)
	none := []byte(nil)
	// A record of Sized has a tag, and its size in two bytes.
	full := texts(8, long(api.MaxBytes-3))
	got, err := codec.Bytes(f, 0, of(full))
	if err != api.OK || len(got) != api.MaxBytes {
		t.Errorf("as many as may be: %d, %d", len(got), err)
	}
	over := func(b api.Body) {
		t.Helper()
		checkBytes(t, f, 0, b, none, api.ErrMuch)
	}
	over(of(texts(8, long(api.MaxBytes-2))))
	over(of(texts(8, long(api.MaxBytes))))
	over(of(texts(9, long(api.MaxBytes))))
	over(of(bits(1, 1), full))
	over(of(full, bits(11, 1)))
	over(withUnknown(of(full), api.Record{Number: 99, Bits: 1}))
	over(withUnknown(of(), api.Record{Number: 99, How: api.Sized, Bytes: make([]byte, api.MaxBytes)}))
	over(of(subs(10, of(full))))
	over(of(subs(13, of(), of(texts(8, long(api.MaxBytes))))))
	over(nested(10, api.MaxDeep, of(full)))
	over(of(texts(12, repeat(api.MaxValues, long(api.MaxBytes))...)))
	over(of(subs(13, of(full), of(full))))
	// Not more than may be, in a Sub, and beside an Unknown one.
	got, err = codec.Bytes(f, 0, of(subs(10, of(texts(8, long(api.MaxBytes-6))))))
	if err != api.OK || len(got) != api.MaxBytes {
		t.Errorf("as many as may be, in a Sub: %d, %d", len(got), err)
	}
	got, err = codec.Bytes(f, 0, withUnknown(of(texts(8, long(api.MaxBytes-6))), api.Record{Number: 99, Bits: 1}))
	if err != api.OK || len(got) != api.MaxBytes {
		t.Errorf("as many as may be, with an Unknown one: %d, %d", len(got), err)
	}
}

// wrongs: what is wrong with bodies of the ordinary file's first message.
var wrongs = []struct {
	b   api.Body
	err api.Errno
}{
	{nested(10, api.MaxDeep+1, of()), api.ErrDeep},
	{of(bits(14, 1)), api.ErrNone},
	{of(bits(3, 1), bits(1, 1)), api.ErrForm},
	{of(bits(1, 1), bits(1, 1)), api.ErrForm},
	{of(texts(1, "a")), api.ErrFit},
	{of(bits(8, 1)), api.ErrFit},
	{of(bits(10, 1)), api.ErrFit},
	{of(bits(1)), api.ErrMany},
	{of(bits(1, 1, 1)), api.ErrMany},
	{of(bits(11, make([]uint64, api.MaxValues+1)...)), api.ErrMany},
	{of(bits(1, 0)), api.ErrForm},
	{of(texts(8, "")), api.ErrForm},
	{of(bits(4, 2)), api.ErrRange},
	{of(bits(7, 1<<32)), api.ErrRange},
	{of(texts(9, long(api.MaxBytes+1))), api.ErrMuch},
	{of(texts(8, "\xff")), api.ErrText},
	{of(subs(10, of(bits(1, 0)))), api.ErrForm},
	{of(bits(20, 1), texts(21, "a")), api.ErrFit},
	{withUnknown(of(), api.Record{Number: 99, How: 3}), api.ErrKind},
	{withUnknown(of(), api.Record{Number: 0}), api.ErrRange},
	{withUnknown(of(), api.Record{Number: 1}), api.ErrName},
}

func TestE1BytesOfWrongBodies(t *testing.T) {
	f := linked(ordinary)
	for _, x := range wrongs {
		checkBytes(t, f, 0, x.b, nil, x.err)
		checkBytes(t, f, 0, of(subs(13, of(), x.b)), nil, x.err)
		if err := body.Wrong(f, 0, x.b); err != x.err {
			t.Errorf("Wrong = %d, not %d", err, x.err)
		}
		// Ahead of ErrMuch, however much there is.
		if x.err != api.ErrMuch {
			checkBytes(t, f, 0, of(subs(13, of(texts(8, long(api.MaxBytes))), x.b)), nil, x.err)
		}
	}
	for _, msg := range []int{-1, 2, math.MinInt, math.MaxInt} {
		checkBytes(t, f, msg, api.Body{}, nil, api.ErrNone)
		checkBytes(t, f, msg, wrongs[0].b, nil, api.ErrNone)
	}
	checkBytes(t, api.File{}, 0, api.Body{}, nil, api.ErrNone)
	// A wrong file is told ahead of all else.
	f.Messages[1].Fields[0].Kind = 0
	checkBytes(t, f, 0, wrongs[0].b, nil, api.ErrKind)
	checkBytes(t, f, 9, api.Body{}, nil, api.ErrKind)
}
