package codec_test

import (
	"bytes"
	"math"
	"slices"
	"strings"
	"testing"

	"fieldpress/api"
	"fieldpress/codec"
)

// checkParse has b be read as want, a body of message msg of f, in memory of its own.
func checkParse(t *testing.T, f api.File, msg int, b []byte, want api.Body, err api.Errno) {
	t.Helper()
	spare := append(bytes.Clone(b), 8, 1, 0xff)
	got, gotErr := codec.Parse(f, msg, spare[:len(b)])
	if gotErr != err || !same(got, want) {
		t.Errorf("Parse(%x) = %+v, %d, not %+v, %d", b, got, gotErr, want, err)
	}
	if !bytes.Equal(spare, append(bytes.Clone(b), 8, 1, 0xff)) {
		t.Errorf("Parse(%x) changed what was handed in: %x", b, spare)
	}
	checkNew(t, got, spare, f)
}

// reads has these bytes be read as a body of message msg of the ordinary file.
func reads(t *testing.T, msg int, b string, want api.Body) {
	t.Helper()
	checkParse(t, linked(ordinary), msg, hexed(b), want, api.OK)
}

// fails has these bytes not be read.
func fails(t *testing.T, msg int, b string, err api.Errno) {
	t.Helper()
	checkParse(t, linked(ordinary), msg, hexed(b), api.Body{}, err)
}

// times answers s that often.
func times(n int, s string) string { return strings.Repeat(s, n) }

// inSub answers these bytes as a record of that tag.
func inSub(tag, b string) string {
	n := len(hexed(b))
	size := []byte{byte(n)}
	if n > 127 {
		size = []byte{byte(n) | 0x80, byte(n >> 7)}
	}
	return tag + hexOf(string(size)) + b
}

// deep answers these bytes as deep as that, each in field 10: themselves, if it is 1.
func deep(depth int, b string) string {
	for range depth - 1 {
		b = inSub("52", b)
	}
	return b
}

const minus = math.MaxUint64 // -1, and all other numbers' complement

func TestE2ParseOfNumbersThatNobodyWritesSo(t *testing.T) {
	const a = 0
	reads(t, a, "08 8500", of(bits(1, 5)))
	reads(t, a, "8800 05", of(bits(1, 5)))
	reads(t, a, "20 02", of(bits(4, 1)))
	reads(t, a, "20 ffffffffffffffffff01", of(bits(4, 1)))
	reads(t, a, "20 80808080808080808001", of(bits(4, 1)))
	reads(t, a, "20 8000", of())
	reads(t, a, "28 ffffffff0f", of(bits(5, minus)))
	reads(t, a, "28 8080808008", of(bits(5, 1<<64-1<<31)))
	reads(t, a, "28 ffffffff07", of(bits(5, 1<<31-1)))
	reads(t, a, "28 8180808010", of(bits(5, 1)))
	reads(t, a, "28 8080808010", of())
	reads(t, a, "28 fffffffff7ffffffff01", of(bits(5, 1<<31-1)))
	reads(t, a, "5a 0d 02 8000 ffffffffffffffffff01", of(bits(11, 1, 0, 1)))
	reads(t, 1, "2a 0b ffffffff0f 8280808010 00", of(bits(5, minus, 2, 0)))
	reads(t, 1, "b801 ffffffff0f", of(bits(23, minus)))
	reads(t, 1, "b801 8080808010", of(bits(23, 0)))
}

func TestE2ParsePackedOrNot(t *testing.T) {
	const a, b = 0, 1
	reads(t, a, "58 01", of(bits(11, 1)))
	reads(t, a, "58 00", of(bits(11, 0)))
	reads(t, a, "58 01 5a 02 00 07 58 00 5a 01 01", of(bits(11, 1, 0, 1, 0, 1)))
	reads(t, a, "5a 01 01 08 05 5a 01 00", of(bits(1, 5), bits(11, 1, 0)))
	reads(t, b, "10 02 10 01 12 02 02 04", of(bits(2, 1, minus, 1, 2)))
	reads(t, b, "31 0100000000000000 32 08 ffffffffffffffff 31 0000000000000000", of(bits(6, 1, minus, 0)))
	reads(t, b, "3a 04 01000000 3d ffffffff", of(bits(7, 1, 1<<32-1)))
	reads(t, b, "28 ffffffff0f 2a 01 01", of(bits(5, minus, 1)))
	// Numbers with more bytes than they need.
	reads(t, b, "0a 05 8500 858000", of(bits(1, 5, 5)))
}

func TestE2AValueWithoutNumbersIsNone(t *testing.T) {
	const a, b = 0, 1
	reads(t, a, "5a 00", of())
	reads(t, a, "5a 00 5a 00", of())
	reads(t, a, "58 01 5a 00", of(bits(11, 1)))
	reads(t, a, "5a 00 58 01", of(bits(11, 1)))
	reads(t, a, "52 02 5a 00", of(subs(10, of())))
	for _, tag := range []string{"0a", "12", "1a", "2a", "32", "3a"} {
		reads(t, b, tag+"00", of())
	}
	// But texts, bytes and bodies without bytes are some.
	reads(t, a, "62 00", of(texts(12, "")))
	reads(t, b, "4a 00", of(texts(9, "")))
	reads(t, a, "6a 00", of(subs(13, of())))
}

func TestE2TheLastOneCounts(t *testing.T) {
	const a = 0
	reads(t, a, "08 05 08 06", of(bits(1, 6)))
	reads(t, a, "08 05 08 00", of())
	reads(t, a, "08 00 08 05", of(bits(1, 5)))
	reads(t, a, "08 00", of())
	reads(t, a, "10 00 18 00 20 00 28 00 31 0000000000000000 3d 00000000 42 00 4a 00", of())
	reads(t, a, "42 01 61 42 01 62", of(texts(8, "b")))
	reads(t, a, "42 01 61 42 00", of())
	reads(t, a, "4a 01 61 4a 00", of())
	reads(t, a, "18 07 08 05 42 01 61 20 01", of(bits(1, 5), bits(3, 7), bits(4, 1), texts(8, "a")))
}

func TestE2ParseOfMany(t *testing.T) {
	const a = 0
	reads(t, a, "62 01 61 08 01 62 00 62 01 61", of(bits(1, 1), texts(12, "a", "", "a")))
	reads(t, a, "6a 02 08 01 6a 00 6a 02 08 02", of(subs(13, of(bits(1, 1)), of(), of(bits(1, 2)))))
	reads(t, 1, "4a 01 ff 4a 01 00", of(texts(9, "\xff", "\x00")))
}

func TestE2SubsArePutTogether(t *testing.T) {
	const a, b = 0, 1
	reads(t, a, "52 02 08 01 52 03 42 01 78", of(subs(10, of(bits(1, 1), texts(8, "x")))))
	reads(t, a, "52 02 08 01 52 02 08 02", of(subs(10, of(bits(1, 2)))))
	reads(t, a, "52 02 08 01 52 00", of(subs(10, of(bits(1, 1)))))
	reads(t, a, "52 00 52 00", of(subs(10, of())))
	reads(t, a, "52 02 58 01 52 03 5a 01 00", of(subs(10, of(bits(11, 1, 0)))))
	reads(t, a, "52 03 62 01 78 20 01 52 03 62 01 79 52 03 62 01 78", of(bits(4, 1), subs(10, of(texts(12, "x", "y", "x")))))
	reads(t, a, deep(5, "0801 5801")+deep(5, "0802 5800"), nested(10, 5, of(bits(1, 2), bits(11, 1, 0))))
	// A nought in the last one is as if it were not there: it takes nothing away from the first one.
	reads(t, a, "52 02 08 01 52 02 08 00", of(subs(10, of(bits(1, 1)))))
	reads(t, a, "52 04 08 01 08 00 52 00", of(subs(10, of())))
	// A Sub that is Many is one more.
	reads(t, a, "6a 02 08 01 6a 02 18 02", of(subs(13, of(bits(1, 1)), of(bits(3, 2)))))
	reads(t, a, "52 02 6a 00 52 04 6a 02 08 01", of(subs(10, of(subs(13, of(), of(bits(1, 1)))))))
	// By the message that the field is of: 1 is Many in B, not in A.
	reads(t, b, "c201 02 08 01 c201 02 08 02", of(subs(24, of(bits(1, 2)))))
	reads(t, b, "ca01 02 08 01 ca01 02 08 02", of(subs(25, of(bits(1, 1, 2)))))
	// Choices in them.
	reads(t, a, "52 03 a001 01 52 04 aa01 01 61", of(subs(10, of(texts(21, "a")))))
	reads(t, a, "b201 02 08 01 b201 02 18 02", of(subs(22, of(bits(1, 1), bits(3, 2)))))
}

func TestE2ParseOfChoices(t *testing.T) {
	const a, b = 0, 1
	reads(t, a, "a001 05 aa01 01 61", of(texts(21, "a")))
	reads(t, a, "aa01 01 61 a001 05", of(bits(20, 5)))
	reads(t, a, "aa01 01 61 a001 00", of(bits(20, 0)))
	reads(t, a, "a001 05 aa01 00", of(texts(21, "")))
	reads(t, a, "a001 05 b201 00", of(subs(22, of())))
	// What was there ahead of another one is gone.
	reads(t, a, "b201 02 08 01 a001 05 b201 02 18 02", of(subs(22, of(bits(3, 2)))))
	// Other choices stay, and so does what has none.
	reads(t, b, "a201 01 61 9001 01 b801 00", of(bits(18, 1), bits(23, 0)))
	reads(t, b, "08 01 a201 01 61 c201 00 9001 00", of(bits(1, 1), bits(18, 0), texts(20, "a")))
}

func TestE2WhatNobodyKnowsIsKept(t *testing.T) {
	const a = 0
	rec := func(number, how int, n uint64, b ...byte) api.Record {
		return api.Record{Number: number, How: how, Bits: n, Bytes: b}
	}
	reads(t, a, "9806 01 08 05 f201 01 76 71 0200000000000000 08 06 7d 03000000 9806 01", withUnknown(of(bits(1, 6)),
		rec(99, api.Varint, 1), rec(30, api.Sized, 0, 'v'), rec(14, api.Eight, 2), rec(15, api.Four, 3), rec(99, api.Varint, 1)))
	reads(t, a, "f801 8500 fa01 00 fa01 01 ff", withUnknown(of(), rec(31, api.Varint, 5), rec(31, api.Sized, 0), rec(31, api.Sized, 0, 0xff)))
	reads(t, a, "f8ffffff0f 01", withUnknown(of(), rec(api.MaxNumber-1, api.Varint, 1)))
	// 4 is known to A, but not to B; 14 to neither.
	reads(t, 1, "20 01 ca01 02 20 02 c201 04 20 02 70 00", withUnknown(of(
		subs(24, withUnknown(of(bits(4, 1)), rec(14, api.Varint, 0))), subs(25, withUnknown(of(), rec(4, api.Varint, 2)))), rec(4, api.Varint, 1)))
	// Those of Subs that are put together are all of both.
	reads(t, a, "52 02 70 01 70 02 52 04 70 03 70 01", withUnknown(of(
		subs(10, withUnknown(of(), rec(14, 0, 1), rec(14, 0, 3), rec(14, 0, 1)))), rec(14, 0, 2)))
	// As many as there are bytes for.
	var l []api.Record
	for range api.MaxBytes / 2 {
		l = append(l, rec(14, api.Varint, 1))
	}
	reads(t, a, times(api.MaxBytes/2, "7001"), withUnknown(of(), l...))
}

func TestE2ParseOfRecordsThatDoNotFit(t *testing.T) {
	const a, b = 0, 1
	ways := []string{" 01", " 0100000000000000", " 00", "", "", " 01000000"}
	fits := func(msg, number, how int) bool {
		m := linked(ordinary).Messages[msg]
		x := m.Fields[slices.IndexFunc(m.Fields, func(x api.Field) bool { return x.Number == number })]
		return how == codec.How(x.Kind) || how == api.Sized && x.Many
	}
	for msg := range 2 {
		for _, number := range codec.Numbers(linked(ordinary).Messages[msg]) {
			for _, how := range []int{api.Varint, api.Eight, api.Sized, api.Four} {
				tag := number*8 + how
				s := hexOf(string([]byte{byte(tag)}))
				if tag > 127 {
					s = hexOf(string([]byte{byte(tag) | 0x80, byte(tag >> 7)}))
				}
				got, err := codec.Parse(linked(ordinary), msg, hexed(s+ways[how]))
				if fits(msg, number, how) && err != api.OK || !fits(msg, number, how) && (err != api.ErrFit || !same(got, api.Body{})) {
					t.Errorf("message %d, number %d, how %d: %+v, %d", msg, number, how, got, err)
				}
			}
		}
	}
	// Packed, but not Many, and the other way; Sized, but not numbers.
	fails(t, a, "0a 01 05", api.ErrFit)
	fails(t, a, "0a 00", api.ErrFit)
	fails(t, a, "22 01 01", api.ErrFit)
	fails(t, a, "3a 04 01000000", api.ErrFit)
	fails(t, a, "a201 01 05", api.ErrFit)
	fails(t, a, "09 0100000000000000", api.ErrFit)
	fails(t, a, "59 0100000000000000", api.ErrFit)
	fails(t, b, "30 01", api.ErrFit)
	fails(t, b, "35 01000000", api.ErrFit)
	fails(t, b, "39 0100000000000000", api.ErrFit)
	fails(t, a, "40 01", api.ErrFit)
	fails(t, a, "50 01", api.ErrFit)
	fails(t, a, "6d 01000000", api.ErrFit)
}

func TestE2ParseOfPackedOnesThatAreNone(t *testing.T) {
	const a, b = 0, 1
	fails(t, a, "5a 01 80", api.ErrForm)
	fails(t, a, "5a 03 01 01 80", api.ErrForm)
	fails(t, a, "5a 0a 80808080808080808002", api.ErrRange)
	fails(t, a, "5a 0b 80808080808080808002 80", api.ErrRange)
	fails(t, a, "5a 0b 01 ffffffffffffffffff7f", api.ErrRange)
	fails(t, b, "32 07 01000000000000", api.ErrForm)
	fails(t, b, "32 09 010000000000000001", api.ErrForm)
	fails(t, b, "3a 03 010000", api.ErrForm)
	fails(t, b, "3a 06 010000000100", api.ErrForm)
	// What stands behind the record is none of it.
	fails(t, a, "5a 01 80 08 01", api.ErrForm)
	fails(t, b, "3a 03 010000 3d 01000000", api.ErrForm)
}

func TestE2ParseOfTexts(t *testing.T) {
	const a = 0
	for _, s := range []string{"ff", "c3", "c0 80", "eda080", "f4908080", "61 80"} {
		tag := inSub("42", strings.ReplaceAll(s, " ", ""))
		fails(t, a, tag, api.ErrText)
		fails(t, a, "62"+tag[2:], api.ErrText)
		fails(t, a, "aa01"+tag[2:], api.ErrText)
		reads(t, a, "4a"+tag[2:], of(texts(9, string(hexed(s)))))
	}
	reads(t, a, "42 04 f48fbfbf", of(texts(8, "\U0010ffff")))
	reads(t, a, "42 01 00", of(texts(8, "\x00")))
	fails(t, a, "42 01 ff 42 01 61", api.ErrText)
	fails(t, a, inSub("6a", "4201ff"), api.ErrText)
}

func TestE2ParseOfWhatIsNoRecords(t *testing.T) {
	const a = 0
	fails(t, a, "08", api.ErrForm)
	fails(t, a, "80", api.ErrForm)
	fails(t, a, "52 02 08", api.ErrForm)
	fails(t, a, "00 00", api.ErrRange)
	fails(t, a, "08 80808080808080808002", api.ErrRange)
	fails(t, a, "0b", api.ErrKind)
	fails(t, a, "0c", api.ErrKind)
	checkParse(t, linked(ordinary), a, make([]byte, api.MaxBytes+1), api.Body{}, api.ErrMuch)
	for _, s := range []string{"08", "00", "0b"} {
		_, want := codec.Parse(linked(ordinary), a, hexed(s))
		for depth := range api.MaxDeep {
			fails(t, a, deep(depth+1, s), want)
		}
		fails(t, a, inSub("6a", s), want)
		fails(t, a, inSub("b201", s), want)
		reads(t, a, inSub("4a", s), of(texts(9, string(hexed(s)))))
		reads(t, a, inSub("72", s), withUnknown(of(), api.Record{Number: 14, How: api.Sized, Bytes: hexed(s)}))
	}
	// As many bytes as may be.
	full := "42 9d1f" + hexOf(long(api.MaxBytes-3))
	reads(t, a, full, of(texts(8, long(api.MaxBytes-3))))
	checkParse(t, linked(ordinary), a, append(hexed(full), 8), api.Body{}, api.ErrMuch)
}

func TestE2ParseOfDeepOnes(t *testing.T) {
	const a = 0
	for depth := 1; depth <= api.MaxDeep; depth++ {
		reads(t, a, deep(depth, "0801"), nested(10, depth, of(bits(1, 1))))
		reads(t, a, deep(depth, ""), nested(10, depth, of()))
	}
	most := nested(10, api.MaxDeep, of(bits(1, 1)))
	checkBytes(t, linked(ordinary), a, most, hexed(deep(api.MaxDeep, "0801")), api.OK)
	for over := 1; over < 9; over++ {
		fails(t, a, deep(api.MaxDeep+over, ""), api.ErrDeep)
		fails(t, a, deep(api.MaxDeep+over, "0801"), api.ErrDeep)
	}
	// By any field that is a Sub; but what nobody knows is not looked into.
	fails(t, a, inSub("6a", deep(api.MaxDeep, "")), api.ErrDeep)
	fails(t, a, inSub("b201", deep(api.MaxDeep, "")), api.ErrDeep)
	reads(t, a, inSub("72", deep(api.MaxDeep, "")), withUnknown(of(), api.Record{Number: 14, How: api.Sized, Bytes: hexed(deep(api.MaxDeep, ""))}))
	fails(t, 1, inSub("ca01", inSub("c201", deep(api.MaxDeep-1, ""))), api.ErrDeep)
	// Ahead of what its bytes are; behind what stands ahead of it, and what is wrong with the records around it.
	fails(t, a, deep(api.MaxDeep+1, "0b"), api.ErrDeep)
	fails(t, a, deep(api.MaxDeep+1, "4201ff"), api.ErrDeep)
	fails(t, a, "4201ff"+deep(api.MaxDeep+1, ""), api.ErrText)
	fails(t, a, deep(api.MaxDeep+1, "")+"4201ff", api.ErrDeep)
	fails(t, a, deep(api.MaxDeep+1, "")+"0b", api.ErrKind)
	fails(t, a, inSub("52", deep(api.MaxDeep, "")+"0b"), api.ErrKind)
}

func TestE2ParseOfTooMany(t *testing.T) {
	const a, b, n = 0, 1, api.MaxValues
	reads(t, a, times(n, "5801"), of(bits(11, repeat(n, uint64(1))...)))
	fails(t, a, times(n+1, "5801"), api.ErrMany)
	reads(t, a, "5a3b"+times(n-1, "01")+"5801", of(bits(11, repeat(n, uint64(1))...)))
	reads(t, a, "5a3c"+times(n, "01")+"5a00", of(bits(11, repeat(n, uint64(1))...)))
	fails(t, a, "5a3d"+times(n+1, "01"), api.ErrMany)
	fails(t, a, "5801"+"5a3c"+times(n, "01"), api.ErrMany)
	fails(t, a, "5a3c"+times(n, "01")+"5800", api.ErrMany)
	fails(t, b, "32e803"+times(8*(n+1), "00"), api.ErrMany)
	reads(t, a, times(n, "6200"), of(texts(12, repeat(n, "")...)))
	fails(t, a, times(n+1, "6200"), api.ErrMany)
	reads(t, a, times(n, "6a00"), of(subs(13, repeat(n, of())...)))
	fails(t, a, times(n+1, "6a00"), api.ErrMany)
	fails(t, a, inSub("6a", times(n+1, "5801")), api.ErrMany)
	// Those that are not Many may come any number of times.
	reads(t, a, times(2*n, "0801"), of(bits(1, 1)))
	reads(t, a, times(2*n, "5200"), of(subs(10, of())))
	// In what is put together, however deep, and however many come together.
	half, more := "5a1e"+times(n/2, "01"), "5a1f"+times(n/2+1, "01")
	for depth := 2; depth <= api.MaxDeep; depth++ {
		reads(t, a, deep(depth, half)+deep(depth, half), nested(10, depth, of(bits(11, repeat(n, uint64(1))...))))
		fails(t, a, deep(depth, half)+deep(depth, more), api.ErrMany)
		fails(t, a, deep(depth, half)+deep(depth, half)+deep(depth, "5800"), api.ErrMany)
	}
	fails(t, a, inSub("b201", half)+inSub("b201", more), api.ErrMany)
	fails(t, a, inSub("52", times(n, "6a00"))+"52026a00", api.ErrMany)
	// But not where they don't come together.
	full := of(bits(11, repeat(n, uint64(1))...))
	reads(t, a, inSub("6a", half+half)+inSub("6a", half+half), of(subs(13, full, full)))
	reads(t, a, inSub("b201", half+half)+"a00100"+inSub("b201", half+half), of(subs(22, full)))
}

// What is wrong is told record by record, as each value comes.
func TestE2TheFirstErrorIsTold(t *testing.T) {
	const a = 0
	text, fit, form, many := "4201ff", "0a00", "5a0180", times(api.MaxValues+1, "5801")
	deepest, sub := deep(api.MaxDeep+1, ""), inSub("6a", "22020101")
	full := "5a3c" + times(api.MaxValues, "01")
	overfull := inSub("52", full) + inSub("52", "5801")
	all := []struct {
		b   string
		err api.Errno
	}{{text, api.ErrText}, {fit, api.ErrFit}, {form, api.ErrForm}, {many, api.ErrMany}, {deepest, api.ErrDeep}, {sub, api.ErrFit}, {overfull, api.ErrMany}}
	for _, x := range all {
		fails(t, a, x.b, x.err)
		for _, y := range all {
			fails(t, a, x.b+y.b, x.err)
			fails(t, a, inSub("6a", x.b)+y.b, x.err)
			fails(t, a, inSub("6a", x.b+y.b), x.err)
			fails(t, a, "0801"+x.b+"0800"+y.b, x.err)
		}
		// Behind what is wrong with the records, and with the file and the message's number.
		fails(t, a, x.b+"08", api.ErrForm)
		fails(t, a, x.b+"0b", api.ErrKind)
		fails(t, a, inSub("6a", x.b)+"00", api.ErrRange)
		fails(t, 2, x.b, api.ErrNone)
	}
	// What a record tells is told ahead of what it comes to.
	fails(t, a, full+"5a0201 80", api.ErrForm)
	fails(t, a, "5a3e"+times(api.MaxValues+1, "01")+"80", api.ErrForm)
	fails(t, a, times(api.MaxValues, "6200")+"6201ff", api.ErrText)
	fails(t, a, times(api.MaxValues, "6a00")+"6a0108", api.ErrForm)
	fails(t, a, inSub("52", full)+inSub("52", "5801"+text), api.ErrText)
}

func TestE2ParseOfWrongFilesAndMessages(t *testing.T) {
	f := linked(ordinary)
	for _, msg := range []int{-1, 2, math.MinInt, math.MaxInt} {
		checkParse(t, f, msg, nil, api.Body{}, api.ErrNone)
		checkParse(t, f, msg, make([]byte, api.MaxBytes+1), api.Body{}, api.ErrNone)
	}
	checkParse(t, api.File{}, 0, nil, api.Body{}, api.ErrNone)
	enums := f
	enums.Messages = nil
	checkParse(t, enums, 0, nil, api.Body{}, api.ErrNone)
	f.Messages[1].Fields[0].Kind = 0
	checkParse(t, f, 0, nil, api.Body{}, api.ErrKind)
	checkParse(t, f, 9, nil, api.Body{}, api.ErrKind)
	checkParse(t, f, 0, []byte{0}, api.Body{}, api.ErrKind)
	f.Messages[0].Fields[0].Name = ""
	checkParse(t, f, 0, nil, api.Body{}, api.ErrName)
}
