package press_test

import (
	"bytes"
	"fmt"
	"math"
	"math/rand"
	"slices"
	"strings"
	"testing"

	"fieldpress/api"
	"fieldpress/codec"
	"fieldpress/link"
	"fieldpress/press"
	"fieldpress/syntax"
)

const minus = math.MaxUint64 // -1

// checkRun has program p of l make these bytes of x, in memory of their own.
func checkRun(t *testing.T, l []api.Program, p int, x api.Body, want []byte, err api.Errno) {
	t.Helper()
	before := steady(l)
	checkOnlyRead(t, x, func(x api.Body) {
		got, gotErr := press.Run(l, p, x)
		if gotErr != err || !bytes.Equal(got, want) {
			t.Errorf("Run(%d, %.2000s) = %.2000x, %d, not %.2000x, %d", p, fmt.Sprintf("%+v", x), got, gotErr, want, err)
		}
		checkNew(t, got, x, l)
	})
	if !samePrograms(l, before) {
		t.Errorf("the programs changed: %+v were %+v", l, before)
	}
}

// writes has program p of the ordinary file make these bytes of x.
func writes(t *testing.T, p int, x api.Body, want string) {
	t.Helper()
	checkRun(t, programs, p, x, hexed(want), api.OK)
}

// fails has program p of the ordinary file tell that error of x, and nothing beside it.
func fails(t *testing.T, p int, x api.Body, err api.Errno) {
	t.Helper()
	checkRun(t, programs, p, x, nil, err)
}

func TestF2RunOfNumbers(t *testing.T) {
	const a = 0
	writes(t, a, api.Body{}, "")
	writes(t, a, api.Body{Values: []api.Value{}, Unknown: []api.Record{}}, "")
	for _, x := range []struct {
		v    api.Value
		want string
	}{
		{bits(1, 1), "08 01"},
		{bits(1, 300), "08 ac02"},
		{bits(1, minus), "08 ffffffffffffffffff01"},
		{bits(2, 1), "10 02"},
		{bits(2, minus), "10 01"},
		{bits(2, 64), "10 8001"},
		{bits(2, 1<<63), "10 ffffffffffffffffff01"},
		{bits(2, 1<<63-1), "10 feffffffffffffffff01"},
		{bits(3, minus), "18 ffffffffffffffffff01"},
		{bits(4, 1), "20 01"},
		{bits(5, minus), "28 ffffffffffffffffff01"},
		{bits(6, 0x0102030405060708), "31 0807060504030201"},
		{bits(7, 0x01020304), "3d 04030201"},
		{bits(7, 1<<32-1), "3d ffffffff"},
		{bits(20, 0), "a001 00"},
	} {
		writes(t, a, of(x.v), x.want)
	}
}

func TestF2RunOfManyNumbers(t *testing.T) {
	const a, b = 0, 1
	writes(t, a, of(bits(11, 1)), "5a 01 01")
	writes(t, a, of(bits(11, 1, 0, 0, 1)), "5a 04 01000001")
	writes(t, b, of(bits(1, 1, 300, minus)), "0a 0d 01 ac02 ffffffffffffffffff01")
	writes(t, b, of(bits(2, 1, 2)), "12 02 02 04")
	writes(t, b, of(bits(2, minus, 0, 1<<63)), "12 0c 01 00 ffffffffffffffffff01")
	writes(t, b, of(bits(3, 127, 128)), "1a 03 7f 8001")
	writes(t, b, of(bits(5, minus, 1)), "2a 0b ffffffffffffffffff01 01")
	writes(t, b, of(bits(6, 1, minus)), "32 10 0100000000000000 ffffffffffffffff")
	writes(t, b, of(bits(7, 1, 1<<32-1, 0)), "3a 0c 01000000 ffffffff 00000000")
	// More bytes than a number of one byte tells.
	writes(t, a, of(bits(11, make([]uint64, 200)...)), "5a c801"+strings.Repeat("00", 200))
	writes(t, b, of(bits(7, make([]uint64, 32)...)), "3a 8001"+strings.Repeat("00", 128))
}

func TestF2RunOfTextsAndSubs(t *testing.T) {
	const a, b = 0, 1
	writes(t, a, of(texts(8, "hé")), "42 03 68c3a9")
	writes(t, a, of(texts(9, "\xff\x00")), "4a 02 ff00")
	writes(t, a, of(texts(12, "x", "", "yz")), "62 01 78 62 00 62 02 797a")
	writes(t, a, of(texts(21, "")), "aa01 00")
	writes(t, a, of(texts(8, long(200))), "42 c801 "+hexOf(long(200)))
	writes(t, a, of(subs(10, of())), "52 00")
	writes(t, a, of(subs(10, of(bits(1, 1), texts(8, "x")))), "52 05 08 01 42 01 78")
	writes(t, a, of(subs(13, of(), of(bits(1, 1)), of())), "6a 00 6a 02 08 01 6a 00")
	writes(t, a, of(subs(22, of(bits(20, 0)))), "b201 03 a001 00")
	writes(t, a, nested(10, 4, of(bits(11, 1))), "52 07 52 05 52 03 5a 01 01")
	writes(t, a, of(subs(10, of(texts(8, long(200))))), "52 cb01 42 c801 "+hexOf(long(200)))
	// By the program that Next tells: 1 is packed in B, not in A.
	writes(t, b, of(subs(24, of(bits(1, 1)))), "c201 02 08 01")
	writes(t, b, of(subs(25, of(bits(1, 1)))), "ca01 03 0a 01 01")
}

func TestF2RunOfUnknown(t *testing.T) {
	const a = 0
	one, two := api.Record{Number: 99, Bits: 1}, api.Record{Number: 30, How: api.Sized, Bytes: []byte("v")}
	three, four := api.Record{Number: 14, How: api.Eight, Bits: 2}, api.Record{Number: 15, How: api.Four, Bits: 3}
	writes(t, a, withUnknown(of(), one, two, three, four, one), "9806 01 f201 01 76 71 0200000000000000 7d 03000000 9806 01")
	// Behind all values, however small its number.
	writes(t, a, withUnknown(of(bits(1, 5), texts(21, "a")), three, one), "08 05 aa01 01 61 71 0200000000000000 9806 01")
	// Each body's own, behind its own values.
	writes(t, a, withUnknown(of(subs(10, withUnknown(of(bits(1, 1)), one)), bits(20, 0)), two), "52 05 08 01 9806 01 a001 00 f201 01 76")
	writes(t, a, withUnknown(of(subs(13, withUnknown(of(), one), withUnknown(of(), four)))), "6a 03 9806 01 6a 05 7d 03000000")
	// One that a field would have known is written all the same.
	writes(t, a, withUnknown(of(bits(1, 5)), api.Record{Number: 1, Bits: 6}, api.Record{Number: 8, How: api.Varint, Bits: 7}), "08 05 08 06 40 07")
}

// Bodies that are wrong are written as the steps say.
func TestF2RunOfWrongBodies(t *testing.T) {
	const a, b = 0, 1
	// As numbers rise, whatever the values' order; the first one of a number.
	writes(t, a, of(bits(4, 1), bits(1, 2), bits(1, 3)), "08 02 20 01")
	writes(t, a, of(bits(1), bits(1, 3)), "")
	writes(t, a, of(texts(1, "x"), bits(1, 3)), "")
	writes(t, a, of(subs(10, of()), subs(10, of(bits(1, 1)))), "52 00")
	// Values that no step has.
	writes(t, a, of(bits(-1, 1), bits(0, 1), bits(14, 1), texts(15, "x"), subs(math.MaxInt, of()), bits(1, 1)), "08 01")
	// As without one.
	writes(t, a, of(bits(1, 0), texts(8, "")), "08 00 42 00")
	// More than one of what is not Many: each with a tag.
	writes(t, a, of(bits(1, 1, 0, 2), bits(2, minus, 1), bits(6, 1, 2), bits(7, 3, 4)),
		"08 01 08 00 08 02 10 01 10 02 31 0100000000000000 31 0200000000000000 3d 03000000 3d 04000000")
	writes(t, a, of(texts(8, "x", "y"), subs(10, of(), of(bits(1, 1)))), "42 01 78 42 01 79 52 00 52 02 08 01")
	// None at all: packed ones have a tag.
	writes(t, a, of(bits(1), texts(8), subs(10), bits(11), texts(12), subs(13)), "5a 00")
	writes(t, b, of(bits(1), bits(6), bits(7)), "0a 00 32 00 3a 00")
	// Others than the step's.
	writes(t, a, of(texts(1, "x"), bits(8, 1), bits(10, 1), texts(11, "x"), subs(12, of()), texts(13, "x")), "5a 00")
	all := func(number int) api.Value {
		return api.Value{Number: number, Bits: []uint64{5}, Bytes: [][]byte{{'x'}}, Subs: []api.Body{of(bits(1, 1))}}
	}
	writes(t, a, of(all(1), all(8), all(10), all(11)), "08 05 42 01 78 52 02 08 01 5a 01 05")
	// Numbers that don't fit: as they are, or their lowest bytes.
	writes(t, a, of(bits(4, 2), bits(5, 1<<40), bits(7, 1<<40|7), bits(11, minus)), "20 02 28 808080808020 3d 07000000 5a 0a ffffffffffffffffff01")
	writes(t, b, of(bits(5, 1<<63), bits(7, 1<<40, minus)), "2a 0a 80808080808080808001 3a 08 00000000 ffffffff")
	// No UTF-8; a choice with more than one.
	writes(t, a, of(texts(8, "\xff"), bits(20, 1), texts(21, "x"), subs(22, of())), "42 01 ff a001 01 aa01 01 78 b201 00")
	// More than MaxValues.
	writes(t, a, of(texts(12, repeat(100, "")...)), strings.Repeat("62 00", 100))
	// In a Sub just so.
	writes(t, a, of(subs(13, of(bits(4, 2), bits(1)), of(bits(11)))), "6a 02 20 02 6a 02 5a 00")
}

// Programs that no file has.
func TestF2RunOfAnyPrograms(t *testing.T) {
	l := []api.Program{
		{step(api.StepPack, 1, api.Varint, api.Zig, -1), step(api.StepBits, 19500, api.Four, api.Small, -1), step(api.StepBlob, api.MaxNumber-1, api.Sized, api.Text, -1)},
		{step(api.StepSub, 3, api.Sized, api.Sub, 2)},
		{step(api.StepSub, 3, api.Sized, api.Sub, 0), step(api.StepSub, 4, api.Sized, api.Sub, 1)},
		{},
	}
	x := of(bits(1, minus, 1), bits(19500, 1), texts(api.MaxNumber-1, "a"))
	const written = "0a 02 01 02 e5c209 01000000 faffffff0f 01 61"
	checkRun(t, l, 0, x, hexed(written), api.OK)
	checkRun(t, l, 1, of(subs(3, of(subs(3, x), subs(4, of(), x)))), hexed("1a 18 1a 12"+written+"22 00 22 00"), api.OK)
	checkRun(t, l, 3, x, nil, api.OK)
	checkRun(t, l, 3, nested(3, 100, x), nil, api.OK)
}

func TestF2RunWithoutAProgram(t *testing.T) {
	wrong := withUnknown(nested(10, api.MaxDeep+1, of()), api.Record{How: 3})
	for _, p := range []int{-1, 2, math.MinInt, math.MaxInt} {
		fails(t, p, api.Body{}, api.ErrNone)
		fails(t, p, wrong, api.ErrNone)
	}
	checkRun(t, nil, 0, api.Body{}, nil, api.ErrNone)
	checkRun(t, []api.Program{}, 0, wrong, nil, api.ErrNone)
	// One in spare room is none.
	checkRun(t, programs[:0], 0, api.Body{}, nil, api.ErrNone)
	// What is wrong with the programs is told ahead, wherever it is.
	l := []api.Program{nil, {step(api.StepBits, 0, 0, api.Int, -1)}}
	for p := -1; p < 3; p++ {
		checkRun(t, l, p, wrong, nil, api.ErrRange)
	}
}

func TestF2RunOfDeepOnes(t *testing.T) {
	const a = 0
	writes(t, a, nested(10, api.MaxDeep, of()), "5214 5212 5210 520e 520c 520a 5208 5206 5204 5202 5200")
	writes(t, a, nested(10, api.MaxDeep, withUnknown(of(bits(1)), api.Record{Number: 99, Bits: 1})), "5217 5215 5213 5211 520f 520d 520b 5209 5207 5205 5203 980601")
	fails(t, a, nested(10, api.MaxDeep+1, of()), api.ErrDeep)
	fails(t, a, nested(13, api.MaxDeep+1, of()), api.ErrDeep)
	fails(t, a, nested(10, 100, of()), api.ErrDeep)
	fails(t, 1, of(subs(24, nested(10, api.MaxDeep, of()))), api.ErrDeep)
	// Where no step goes deeper, nothing is too deep.
	writes(t, 1, nested(10, 100, of(bits(1, 1))), "")
	writes(t, a, of(bits(1, 1), subs(14, nested(10, 100, of()))), "08 01")
	// Ahead of what is wrong with what is too deep.
	fails(t, a, nested(10, api.MaxDeep+1, withUnknown(of(), api.Record{How: 3})), api.ErrDeep)
}

// As deep as the limits go, and one that stands in itself.
func TestF2RunOfTheDeepestEnds(t *testing.T) {
	if b, err := press.Run(programs, 0, nested(10, 1<<16, of())); len(b) > 0 || err != api.ErrDeep {
		t.Errorf("Run = %x, %d", b, err)
	}
	x := of(subs(13, of(), of()))
	x.Values[0].Subs[0], x.Values[0].Subs[1] = x, x
	if b, err := press.Run(programs, 0, x); len(b) > 0 || err != api.ErrDeep {
		t.Errorf("Run = %x, %d", b, err)
	}
}

func TestF2RunOfWrongRecords(t *testing.T) {
	const a = 0
	right := api.Record{Number: 99, Bits: 1}
	for _, x := range []struct {
		r   api.Record
		err api.Errno
	}{
		{api.Record{Number: 99, How: 3}, api.ErrKind},
		{api.Record{Number: 99, How: -1}, api.ErrKind},
		{api.Record{Number: 99, How: api.Sized, Bytes: make([]byte, api.MaxBytes+1)}, api.ErrMuch},
		{api.Record{Number: 0}, api.ErrRange},
		{api.Record{Number: api.MaxNumber}, api.ErrRange},
		{api.Record{Number: 99, How: api.Four, Bits: 1 << 32}, api.ErrRange},
		{api.Record{Number: 99, How: api.Sized, Bits: 1}, api.ErrFit},
		{api.Record{Number: 99, How: api.Eight, Bytes: []byte{1}}, api.ErrFit},
	} {
		fails(t, a, withUnknown(of(), x.r), x.err)
		fails(t, a, withUnknown(of(bits(1, 1)), right, x.r), x.err)
		fails(t, a, of(subs(13, of(), withUnknown(of(), right, x.r))), x.err)
		fails(t, a, nested(10, api.MaxDeep, withUnknown(of(), x.r)), x.err)
		// In turn.
		fails(t, a, withUnknown(of(), x.r, api.Record{Number: 99, How: 4}, api.Record{}), x.err)
		fails(t, a, withUnknown(of(), api.Record{}, x.r), api.ErrRange)
		fails(t, a, withUnknown(of(), api.Record{Number: 1, Bytes: []byte{1}}, x.r), api.ErrFit)
		// Behind what the steps tell, be it of a later field, in another body.
		fails(t, a, withUnknown(of(subs(22, nested(10, api.MaxDeep, of()))), x.r), api.ErrDeep)
		fails(t, a, withUnknown(of(subs(10, withUnknown(of(), api.Record{How: 6}))), x.r), api.ErrKind)
		fails(t, a, of(subs(13, withUnknown(of(), x.r), nested(10, api.MaxDeep, of()))), x.err)
		// Not looked at, where no step goes.
		writes(t, 1, of(subs(10, withUnknown(of(), x.r))), "")
		// Ahead of ErrMuch, however much there is.
		much := api.Record{Number: 98, How: api.Sized, Bytes: make([]byte, api.MaxBytes)}
		fails(t, a, withUnknown(of(texts(8, long(2*api.MaxBytes))), much, much, x.r), x.err)
	}
}

func TestF2RunOfMuch(t *testing.T) {
	const a = 0
	// A record of Sized has a tag, and its size in two bytes.
	full := texts(8, long(api.MaxBytes-3))
	most := func(x api.Body) {
		t.Helper()
		got, err := press.Run(programs, a, x)
		if err != api.OK || len(got) != api.MaxBytes {
			t.Errorf("as many as may be: %d, %d", len(got), err)
		}
	}
	one := api.Record{Number: 99, Bits: 1}
	most(of(full))
	most(of(texts(12, repeat(api.MaxBytes/2, "")...)))
	most(of(bits(1, make([]uint64, api.MaxBytes/2)...)))
	most(of(bits(11, make([]uint64, api.MaxBytes-3)...)))
	most(of(subs(13, repeat(api.MaxBytes/2, of())...)))
	most(of(subs(10, of(texts(8, long(api.MaxBytes-6))))))
	most(withUnknown(of(texts(8, long(api.MaxBytes-6))), one))
	most(withUnknown(of(), api.Record{Number: 1, How: api.Sized, Bytes: make([]byte, api.MaxBytes-3)}))

	over := func(x api.Body) {
		t.Helper()
		fails(t, a, x, api.ErrMuch)
	}
	over(of(texts(8, long(api.MaxBytes-2))))
	over(of(texts(9, long(api.MaxBytes+1))))
	over(of(texts(9, long(100*api.MaxBytes))))
	over(of(bits(1, 1), full))
	over(of(full, bits(11)))
	over(of(texts(12, repeat(api.MaxBytes/2+1, "")...)))
	over(of(bits(1, make([]uint64, api.MaxBytes/2+1)...)))
	over(of(bits(11, make([]uint64, api.MaxBytes-2)...)))
	over(of(subs(13, repeat(api.MaxBytes/2+1, of())...)))
	over(withUnknown(of(full), one))
	over(withUnknown(of(), api.Record{Number: 99, How: api.Sized, Bytes: make([]byte, api.MaxBytes)}))
	over(of(subs(10, of(full))))
	over(of(subs(10, of(texts(8, long(api.MaxBytes-5))))))
	over(nested(10, api.MaxDeep, of(full)))
	over(of(subs(13, of(full), of(full))))
}

func TestF2RunOfMuchIsToldLast(t *testing.T) {
	const a = 0
	huge := texts(8, long(2*api.MaxBytes))
	deep := nested(10, api.MaxDeep, of())
	fails(t, a, of(huge, subs(10, deep)), api.ErrDeep)
	fails(t, a, of(huge, subs(13, of(), deep)), api.ErrDeep)
	fails(t, a, withUnknown(of(huge), api.Record{}), api.ErrRange)
	fails(t, a, of(huge, subs(13, withUnknown(of(), api.Record{How: 7}))), api.ErrKind)
}

// What is too much in a Sub, by whatever and however deep, is told behind all that is wrong elsewhere, too.
func TestF2RunOfMuchInASubIsToldLast(t *testing.T) {
	const a = 0
	right := api.Record{Number: 99, How: api.Sized, Bytes: make([]byte, api.MaxBytes/2)}
	deep := nested(10, api.MaxDeep, of())
	for _, huge := range []api.Body{
		of(texts(8, long(api.MaxBytes-2))),
		of(texts(8, long(3*api.MaxBytes))),
		of(texts(12, repeat(api.MaxBytes, "")...)),
		of(bits(1, make([]uint64, api.MaxBytes)...)),
		of(bits(11, make([]uint64, api.MaxBytes)...)),
		withUnknown(of(), right, right),
		of(subs(13, repeat(api.MaxBytes, of())...)),
		of(subs(13, repeat(5, of(texts(8, long(api.MaxBytes/4))))...)),
		of(subs(10, of(texts(8, long(api.MaxBytes))))),
		nested(13, api.MaxDeep-1, of(texts(9, long(api.MaxBytes)))),
	} {
		fails(t, a, of(subs(10, huge)), api.ErrMuch)
		fails(t, a, of(subs(13, of(), huge, of(), huge)), api.ErrMuch)
		fails(t, a, withUnknown(of(subs(10, huge), bits(20, 1)), right), api.ErrMuch)
		// What is too deep, of the same value, of a later one, and of another Sub's.
		fails(t, a, of(subs(13, huge, deep)), api.ErrDeep)
		fails(t, a, of(subs(13, deep, huge)), api.ErrDeep)
		fails(t, a, of(subs(10, huge), subs(13, deep)), api.ErrDeep)
		fails(t, a, of(subs(13, huge, huge), subs(22, of(), deep)), api.ErrDeep)
		fails(t, a, of(subs(10, huge), subs(13, of(), of(subs(10, deep)))), api.ErrDeep)
		for _, x := range []struct {
			r   api.Record
			err api.Errno
		}{
			{api.Record{Number: 3, How: 3}, api.ErrKind},
			{api.Record{Number: 0}, api.ErrRange},
			{api.Record{Number: 3, How: api.Sized, Bits: 1}, api.ErrFit},
		} {
			wrong := withUnknown(of(), right, x.r)
			fails(t, a, withUnknown(of(subs(10, huge)), x.r), x.err)
			fails(t, a, withUnknown(of(subs(10, huge)), right, right, x.r), x.err)
			fails(t, a, of(subs(13, huge, wrong)), x.err)
			fails(t, a, of(subs(10, huge), subs(22, wrong)), x.err)
			fails(t, a, of(subs(13, huge, nested(10, api.MaxDeep-1, wrong))), x.err)
			// The first one of those that are told ahead of it.
			fails(t, a, withUnknown(of(subs(13, huge, wrong, deep)), api.Record{How: 7}), x.err)
			fails(t, a, withUnknown(of(subs(13, huge, deep, wrong)), x.r), api.ErrDeep)
		}
		// What is wrong with the programs, or that there is none, is told ahead of it anyway.
		checkRun(t, programs, 2, of(subs(10, huge)), nil, api.ErrNone)
		checkRun(t, []api.Program{{step(9, 1, 0, 0, 0)}}, 0, of(subs(10, huge)), nil, api.ErrKind)
	}
	// But a record that is too much by itself is wrong, and told in turn.
	most := withUnknown(of(), api.Record{Number: 3, How: api.Sized, Bytes: make([]byte, api.MaxBytes+1)})
	fails(t, a, withUnknown(of(subs(13, most, deep)), api.Record{}), api.ErrMuch)
	fails(t, a, of(subs(13, deep, most)), api.ErrDeep)
}

// Made once, or looked up each time: both write the same.
func TestF2RunWritesWhatTheCodecWrites(t *testing.T) {
	f := linked(ordinary)
	want, err := codec.Bytes(f, 0, much())
	if err != api.OK {
		t.Fatalf("Bytes = %d", err)
	}
	checkRun(t, programs, 0, much(), want, api.OK)
	r := rand.New(rand.NewSource(2))
	told := make(map[api.Errno]int)
	for i := range 4000 {
		if i%2 == 0 {
			f = anyFile(r)
		} else {
			f = linked(ordinary)
		}
		l, _ := press.Make(f)
		msg := r.Intn(len(f.Messages))
		x := anyBody(r, f, msg, 4)
		if r.Intn(20) == 0 {
			x.Unknown = append(x.Unknown, api.Record{Number: 41, How: api.Sized, Bytes: make([]byte, api.MaxBytes-r.Intn(60))})
		}
		want, err := codec.Bytes(f, msg, x)
		checkRun(t, l, msg, x, want, err)
		told[err]++
		if t.Failed() {
			return
		}
	}
	if told[api.OK] < 3000 || told[api.ErrMuch] < 20 || len(told) != 2 {
		t.Errorf("not all was met: %v", told)
	}
}

// A right body of some message is one of any other one, though often a wrong one.
func TestF2RunOfBodiesOfOtherMessages(t *testing.T) {
	r := rand.New(rand.NewSource(3))
	told := make(map[api.Errno]int)
	for range 3000 {
		f, g := anyFile(r), anyFile(r)
		l, _ := press.Make(f)
		x := anyBody(r, g, r.Intn(len(g.Messages)), 3)
		for k := range x.Values {
			if v := &x.Values[k]; r.Intn(4) == 0 {
				v.Bits, v.Number = append(v.Bits, r.Uint64()>>r.Intn(64)), r.Intn(32)
			}
		}
		spoil(r, &x)
		p := r.Intn(len(l))
		want, err := modelled(l, p, x)
		checkRun(t, l, p, x, want, err)
		told[err]++
		if t.Failed() {
			return
		}
	}
	for _, err := range []api.Errno{api.OK, api.ErrKind, api.ErrRange, api.ErrFit} {
		if told[err] < 5 {
			t.Errorf("error %d was told %d times only: %v", err, told[err], told)
		}
	}
}

// spoil has x now and then have a record that is wrong.
func spoil(r *rand.Rand, x *api.Body) {
	if r.Intn(10) == 0 {
		x.Unknown = append(x.Unknown, api.Record{Number: r.Intn(2), How: r.Intn(8), Bits: r.Uint64() >> r.Intn(64)})
	}
}

// anyTree is a body of A with Subs, in which here and there is much, or too much, or what is wrong.
func anyTree(r *rand.Rand, deep int) api.Body {
	var x api.Body
	if r.Intn(8) == 0 {
		x.Values = append(x.Values, texts(9, long(r.Intn(2*api.MaxBytes))))
	}
	for _, number := range []int{10, 13, 22} {
		var l []api.Body
		for range r.Intn(3) {
			if deep > 1 {
				l = append(l, anyTree(r, deep-1))
			} else if r.Intn(30) == 0 {
				l = append(l, nested(10, api.MaxDeep, of()))
			}
		}
		x.Values = append(x.Values, subs(number, l...))
	}
	if r.Intn(20) == 0 {
		x.Unknown = append(x.Unknown, api.Record{Number: 99, How: api.Sized, Bytes: make([]byte, r.Intn(api.MaxBytes+50))})
	}
	if r.Intn(4) == 0 {
		spoil(r, &x)
	}
	return x
}

// Whichever errors there are, and wherever.
func TestF2RunTellsTheFirstError(t *testing.T) {
	r := rand.New(rand.NewSource(5))
	told := make(map[api.Errno]int)
	for range 2000 {
		x := anyTree(r, r.Intn(3)+1)
		want, err := modelled(programs, 0, x)
		checkRun(t, programs, 0, x, want, err)
		told[err]++
		if t.Failed() {
			return
		}
	}
	for _, err := range []api.Errno{api.OK, api.ErrKind, api.ErrRange, api.ErrMuch, api.ErrDeep} {
		if told[err] < 20 {
			t.Errorf("error %d was told %d times only: %v", err, told[err], told)
		}
	}
}

// modelled is what Run of right programs should answer, told by the plainest means: byte by byte, with the document's numbers.
func modelled(l []api.Program, p int, x api.Body) ([]byte, api.Errno) {
	b, err := all(l, p, x, 1)
	if len(b) > 4000 {
		return nil, api.ErrMuch
	}
	return b, err
}

// all is what program p makes of x, however much that is.
func all(l []api.Program, p int, x api.Body, depth int) ([]byte, api.Errno) {
	if depth > 12 {
		return nil, api.ErrDeep
	}
	var out sheet
	for _, s := range l[p] {
		at := slices.IndexFunc(x.Values, func(v api.Value) bool { return v.Number == s.Number })
		if at < 0 {
			continue
		}
		v := x.Values[at]
		if s.Kind < api.StepBlob {
			out.numbers(s, v.Bits)
			continue
		}
		blobs := v.Bytes
		if s.Kind == api.StepSub {
			blobs = nil
			for _, sub := range v.Subs {
				b, err := all(l, s.Next, sub, depth+1)
				if err != api.OK {
					return nil, err
				}
				blobs = append(blobs, b)
			}
		}
		for _, b := range blobs {
			out.blob(s.Number, b)
		}
	}
	for _, r := range x.Unknown {
		if err := out.record(r); err != api.OK {
			return nil, err
		}
	}
	return out, api.OK
}

// sheet is bytes, that more are written to.
type sheet []byte

func (o *sheet) number(n uint64) {
	for ; n > 127; n /= 128 {
		*o = append(*o, byte(n%128+128))
	}
	*o = append(*o, byte(n))
}

func (o *sheet) bits(how int, n uint64) {
	switch how {
	case 0:
		o.number(n)
	case 1:
		*o = append(*o, byte(n), byte(n>>8), byte(n>>16), byte(n>>24), byte(n>>32), byte(n>>40), byte(n>>48), byte(n>>56))
	case 5:
		*o = append(*o, byte(n), byte(n>>8), byte(n>>16), byte(n>>24))
	}
}

func (o *sheet) blob(number int, b []byte) {
	o.number(uint64(number*8 + 2))
	o.number(uint64(len(b)))
	*o = append(*o, b...)
}

func (o *sheet) numbers(s api.Step, l []uint64) {
	var packed sheet
	for _, n := range l {
		if s.Field == api.Zig {
			n = n<<1 ^ uint64(int64(n)>>63)
		}
		if s.Kind == api.StepPack {
			packed.bits(s.How, n)
			continue
		}
		o.number(uint64(s.Number*8 + s.How))
		o.bits(s.How, n)
	}
	if s.Kind == api.StepPack {
		o.blob(s.Number, packed)
	}
}

func (o *sheet) record(r api.Record) api.Errno {
	switch {
	case r.How < 0 || r.How == 3 || r.How == 4 || r.How > 5:
		return api.ErrKind
	case r.How == 2 && len(r.Bytes) > 4000:
		return api.ErrMuch
	case r.Number < 1 || r.Number >= 1<<29 || r.How == 5 && r.Bits >= 1<<32:
		return api.ErrRange
	case r.How == 2 && r.Bits != 0 || r.How != 2 && len(r.Bytes) > 0:
		return api.ErrFit
	}
	if r.How == 2 {
		o.blob(r.Number, r.Bytes)
		return api.OK
	}
	o.number(uint64(r.Number*8 + r.How))
	o.bits(r.How, r.Bits)
	return api.OK
}

// Whatever file a text tells, and whatever body of it bytes tell: its programs write what the codec writes.
func FuzzF2(f *testing.F) {
	r := rand.New(rand.NewSource(4))
	for range 20 {
		file := anyFile(r)
		b, _ := codec.Bytes(file, 0, anyBody(r, file, 0, 3))
		f.Add(syntax.Print(file), 0, b)
	}
	f.Add(ordinary, 1, hexed("12 02 02 04"))
	f.Fuzz(func(t *testing.T, s string, msg int, b []byte) {
		file, _ := syntax.Parse(s)
		file, _ = link.Link(file)
		l, w := press.Make(file)
		if w != (api.Fault{}) || len(l) != len(file.Messages) || press.Wrong(l) != (api.Fault{}) {
			t.Fatalf("Make(%+v) = %+v, %+v", file, l, w)
		}
		x, _ := codec.Parse(file, msg, b)
		want, err := codec.Bytes(file, msg, x)
		checkRun(t, l, msg, x, want, err)
	})
}
