package body_test

import (
	"math"
	"math/rand"
	"testing"

	"fieldpress/api"
	"fieldpress/body"
)

// wrong has a body of message msg looked at, with which that must be wrong: where it stands, and as a sub of others; and put together, which must say the same.
func wrong(t *testing.T, msg int, b api.Body, want api.Errno) {
	t.Helper()
	f := linked(ordinary)
	name := f.Messages[msg].Name
	f.Messages = append(f.Messages, api.Message{Name: "Outer", Fields: []api.Field{
		{Name: "one", Number: 1, Kind: api.Sub, Type: name}, {Name: "many", Number: 2, Kind: api.Sub, Type: name, Many: true}, {Name: "choice", Number: 3, Kind: api.Sub, Type: name, Choice: 1},
	}})
	look := func(msg int, b api.Body) {
		t.Helper()
		checkOnlyRead(t, b, func(b api.Body) {
			if err := body.Wrong(f, msg, b); err != want {
				t.Errorf("Wrong of %+v, a body of message %d, = %d, not %d", b, msg, err, want)
			}
		})
	}
	look(msg, b)
	look(2, of(subs(1, b)))
	look(2, of(subs(2, api.Body{}, b, api.Body{})))
	look(2, of(subs(1, api.Body{}), subs(3, b)))
	if want == api.OK {
		return
	}
	for _, l := range [][2]api.Body{{b, {}}, {{}, b}, {b, b}} {
		if c, err := body.Join(f, msg, l[0], l[1]); err != want || !same(c, api.Body{}) {
			t.Errorf("Join of %+v = %+v, %d; not %d alone", l, c, err, want)
		}
	}
}

func right(t *testing.T, msg int, b api.Body) {
	t.Helper()
	wrong(t, msg, b, api.OK)
}

func TestD2WrongFiles(t *testing.T) {
	good := linked(ordinary)
	crowded := linked("message A { int64 i = 1; }")
	crowded.Messages = append(crowded.Messages, make([]api.Message, api.MaxMessages)...)
	named := linked("message A { int64 i = 1; } message B { }")
	named.Messages[1].Name = "A"
	unlinked := linked("message A { E e = 1; } enum E { z = 0; }")
	unlinked.Messages[0].Fields[0].Kind = api.Sub
	kind := linked("message A { int64 i = 1; }")
	kind.Messages[0].Fields[0].Kind = 11
	itemless := linked("message A { int64 i = 1; } enum E { z = 0; }")
	itemless.Enums[0].Items = nil
	for _, x := range []struct {
		f    api.File
		want api.Errno
	}{
		{good, api.OK}, {crowded, api.ErrMany}, {named, api.ErrName}, {unlinked, api.ErrNone}, {kind, api.ErrKind}, {itemless, api.ErrMany},
	} {
		for msg := -1; msg <= 3; msg++ {
			for _, b := range []api.Body{{}, of(bits(42, 1)), of(bits(1, 1, 1))} {
				want := x.want
				switch {
				case want != api.OK: // ahead of all else
				case msg < 0 || msg > 1 || len(b.Values) > 0 && b.Values[0].Number == 42:
					want = api.ErrNone
				case len(b.Values) > 0 && msg == 0:
					want = api.ErrMany
				}
				if err := body.Wrong(x.f, msg, b); err != want {
					t.Errorf("Wrong(%+v, %d, %+v) = %d, not %d", x.f, msg, b, err, want)
				}
				if c, err := body.Join(x.f, msg, api.Body{}, b); err != want || want != api.OK && !same(c, api.Body{}) {
					t.Errorf("Join(%+v, %d, %+v) = %+v, %d; not %d", x.f, msg, b, c, err, want)
				}
			}
		}
	}
}

func TestD2WrongMessages(t *testing.T) {
	f := linked(ordinary)
	// A message that is none is told ahead of all that is wrong with the body.
	for _, b := range []api.Body{{}, much(), of(bits(1, 1, 2)), nested(10, api.MaxDeep+1, api.Body{})} {
		for _, msg := range []int{-1, 2, math.MinInt, math.MaxInt} {
			if err := body.Wrong(f, msg, b); err != api.ErrNone {
				t.Errorf("Wrong of message %d = %d", msg, err)
			}
		}
	}
	if err := body.Wrong(api.File{}, 0, api.Body{}); err != api.ErrNone {
		t.Errorf("Wrong of no file = %d", err)
	}
	// A body is looked at as that message's.
	b := of(bits(1, 1, 2))
	right(t, 1, b)
	wrong(t, 0, b, api.ErrMany)
}

func TestD2Right(t *testing.T) {
	right(t, 0, api.Body{})
	right(t, 0, api.Body{Values: []api.Value{}, Unknown: []api.Record{}})
	right(t, 0, much())
	for _, b := range much().Values {
		right(t, 0, of(b))
	}
	right(t, 0, of(api.Value{Number: 1, Bits: []uint64{1}, Bytes: [][]byte{}, Subs: []api.Body{}}))
	right(t, 1, of(bits(1, 0), bits(2, 0, 0), bits(3, 1<<63), bits(5, 0, 1<<64-1<<31), bits(6, 0), bits(7, 0, 1<<32-1), texts(9, "", "\xff"), bits(18, 0), texts(20, ""), subs(25, of())))
}

func TestD2WrongNumbers(t *testing.T) {
	for _, number := range []int{0, -1, 14, 19, 23, 30, math.MinInt, math.MaxInt} {
		wrong(t, 0, of(bits(number, 1)), api.ErrNone)
		wrong(t, 0, of(bits(1, 1), bits(number, 1)), api.ErrNone)
		wrong(t, 0, of(bits(number)), api.ErrNone)
	}
	wrong(t, 0, of(bits(1, 1), bits(1, 1)), api.ErrForm)
	wrong(t, 0, of(bits(2, 1), bits(1, 1)), api.ErrForm)
	wrong(t, 0, of(bits(1, 1), bits(3, 1), bits(2, 1)), api.ErrForm)
	wrong(t, 0, of(bits(11, 1), bits(11, 1)), api.ErrForm)
	right(t, 0, of(bits(1, 1), bits(2, 1), bits(3, 1)))
	// As numbers rise, not as fields stand in the message.
	right(t, 1, of(bits(18, 1), texts(20, "")))
	wrong(t, 1, of(texts(20, ""), bits(18, 1)), api.ErrForm)
}

func TestD2WrongParts(t *testing.T) {
	f := linked(ordinary)
	for msg, m := range f.Messages {
		for _, x := range m.Fields {
			v := api.Value{Number: x.Number, Bits: []uint64{1}, Bytes: [][]byte{[]byte("a")}, Subs: []api.Body{{}}}
			wrong(t, msg, of(v), api.ErrFit)
			noBits, noBytes, noSubs := v, v, v
			noBits.Bits, noBytes.Bytes, noSubs.Subs = nil, nil, nil
			for _, w := range []api.Value{noBits, noBytes, noSubs} {
				wrong(t, msg, of(w), api.ErrFit)
			}
			for kind, w := range map[int]api.Value{api.Int: bits(x.Number, 1), api.Text: texts(x.Number, "a"), api.Sub: subs(x.Number, of())} {
				want := api.ErrFit
				if kind == partOf(x.Kind) {
					want = api.OK
				}
				wrong(t, msg, of(w), want)
			}
		}
	}
}

// partOf answers Int, Text or Sub: the kind whose values have the same as that kind's.
func partOf(kind int) int {
	switch kind {
	case api.Text, api.Raw:
		return api.Text
	case api.Sub:
		return api.Sub
	}
	return api.Int
}

func TestD2WrongHowMany(t *testing.T) {
	f := linked(ordinary)
	for msg, m := range f.Messages {
		for _, x := range m.Fields {
			some := func(n int) api.Body {
				switch partOf(x.Kind) {
				case api.Text:
					return of(texts(x.Number, repeat(n, "a")...))
				case api.Sub:
					return of(subs(x.Number, repeat(n, of())...))
				}
				return of(bits(x.Number, repeat(n, uint64(1))...))
			}
			wrong(t, msg, some(0), api.ErrMany)
			right(t, msg, some(1))
			for _, n := range []int{2, api.MaxValues} {
				if x.Many {
					right(t, msg, some(n))
				} else {
					wrong(t, msg, some(n), api.ErrMany)
				}
			}
			wrong(t, msg, some(api.MaxValues+1), api.ErrMany)
		}
	}
}

func TestD2WrongAsWithoutOne(t *testing.T) {
	for _, number := range []int{1, 2, 3, 4, 5, 6, 7} {
		wrong(t, 0, of(bits(number, 0)), api.ErrForm)
	}
	for _, number := range []int{8, 9} {
		wrong(t, 0, of(texts(number, "")), api.ErrForm)
		wrong(t, 0, of(api.Value{Number: number, Bytes: [][]byte{nil}}), api.ErrForm)
		right(t, 0, of(texts(number, "\x00")))
	}
	for _, v := range []api.Value{bits(11, 0), texts(12, ""), texts(12, "", ""), subs(13, of()), bits(20, 0), texts(21, ""), subs(22, of()), subs(10, of())} {
		right(t, 0, of(v))
	}
}

func TestD2WrongBits(t *testing.T) {
	const top = math.MaxUint64
	wrong(t, 0, of(bits(4, 2)), api.ErrRange)
	wrong(t, 0, of(bits(4, top)), api.ErrRange)
	wrong(t, 0, of(bits(11, 0, 1, 2, 0)), api.ErrRange)
	for _, n := range []uint64{1<<31 - 1, top, top - 1<<31 + 1} {
		right(t, 0, of(bits(5, n)))
		right(t, 1, of(bits(23, n)))
	}
	for _, n := range []uint64{1 << 31, 1<<32 - 1, 1 << 32, 1 << 63, top - 1<<31} {
		wrong(t, 0, of(bits(5, n)), api.ErrRange)
		wrong(t, 1, of(bits(5, 0, 1, n)), api.ErrRange)
	}
	right(t, 0, of(bits(7, 1<<32-1)))
	wrong(t, 0, of(bits(7, 1<<32)), api.ErrRange)
	wrong(t, 1, of(bits(7, 0, top)), api.ErrRange)
	for _, number := range []int{1, 2, 3, 6} {
		right(t, 0, of(bits(number, top)))
		right(t, 1, of(bits(number, 0, 1<<63, top)))
	}
}

func TestD2WrongBytes(t *testing.T) {
	for _, number := range []int{8, 9, 12, 21} {
		right(t, 0, of(texts(number, long(api.MaxBytes))))
		wrong(t, 0, of(texts(number, long(api.MaxBytes+1))), api.ErrMuch)
	}
	for _, s := range []string{"\xff", "a\x80", "\xc0\x80", "\xed\xa0\x80", "\xf4\x90\x80\x80", "\xe2\x82", "\xc3"} {
		for _, number := range []int{8, 12, 21} {
			wrong(t, 0, of(texts(number, s)), api.ErrText)
			wrong(t, 0, of(texts(number, "é"+s)), api.ErrText)
		}
		right(t, 0, of(texts(9, s)))
		right(t, 1, of(texts(20, s)))
		right(t, 1, of(texts(9, s, s)))
		wrong(t, 0, of(texts(12, "a", s)), api.ErrText)
	}
	for _, s := range []string{"a", "\x00", "\u00e9", "\ufffd", "\uffff", "\U0010ffff", "\u20ac"} {
		right(t, 0, of(texts(8, s), texts(12, s, s), texts(21, s)))
	}
	// In turn; each is too much ahead of being no text.
	wrong(t, 0, of(texts(8, "\xff"+long(api.MaxBytes))), api.ErrMuch)
	wrong(t, 0, of(texts(12, "\xff", long(api.MaxBytes+1))), api.ErrText)
	wrong(t, 0, of(texts(12, long(api.MaxBytes+1), "\xff")), api.ErrMuch)
	wrong(t, 1, of(texts(9, "", "a", long(api.MaxBytes+1))), api.ErrMuch)
	right(t, 1, of(texts(9, repeat(api.MaxValues, long(api.MaxBytes))...)))
}

func TestD2WrongSubs(t *testing.T) {
	wrong(t, 0, of(subs(13, of(), of(bits(1, 1)), of(bits(4, 2)))), api.ErrRange)
	wrong(t, 0, of(subs(13, of(bits(1, 0)), of(bits(4, 2)))), api.ErrForm)
	wrong(t, 0, of(subs(13, of(bits(4, 2)), of(bits(1, 0)))), api.ErrRange)
	// Of the message that the field's Type is: numbers and choices begin anew in it.
	right(t, 1, of(subs(24, of(bits(4, 1), bits(20, 0)))))
	wrong(t, 1, of(subs(24, of(bits(1, 1, 2)))), api.ErrMany)
	right(t, 1, of(bits(3, 1), subs(25, of(bits(1, 1, 2), texts(20, ""), subs(25, of(bits(1, 1)))))))
	wrong(t, 1, of(subs(25, of(bits(4, 1)))), api.ErrNone)
	wrong(t, 0, of(subs(10, withUnknown(of(), api.Record{Number: 1}))), api.ErrName)
	right(t, 1, of(subs(24, withUnknown(of(), api.Record{Number: 25}))))
}

func TestD2WrongDeep(t *testing.T) {
	f := linked(ordinary)
	look := func(b api.Body, want api.Errno) {
		t.Helper()
		if err := body.Wrong(f, 0, b); err != want {
			t.Errorf("Wrong = %d, not %d", err, want)
		}
		if _, err := body.Join(f, 0, api.Body{}, b); err != want {
			t.Errorf("Join's error is %d, not %d", err, want)
		}
	}
	for _, number := range []int{10, 13, 22} {
		for depth := 1; depth <= api.MaxDeep; depth++ {
			look(nested(number, depth, of(bits(1, 1))), api.OK)
			look(nested(number, depth, of(bits(1, 0))), api.ErrForm)
		}
		look(nested(number, api.MaxDeep+1, of(bits(1, 1))), api.ErrDeep)
		look(nested(number, 1<<16, of()), api.ErrDeep)
		// Too deep is told ahead of what is wrong with what is too deep, ..
		look(nested(number, api.MaxDeep+1, of(bits(1, 0))), api.ErrDeep)
	}
	// .. but behind what is wrong ahead of that, and ahead of what is behind.
	deep := nested(10, api.MaxDeep, of())
	look(of(bits(4, 2), subs(10, deep)), api.ErrRange)
	look(of(subs(10, deep), bits(11, 2)), api.ErrDeep)
	look(of(subs(13, of(bits(4, 2)), deep)), api.ErrRange)
	look(of(subs(13, deep, of(bits(4, 2)))), api.ErrDeep)
	look(of(subs(10, deep, deep)), api.ErrMany)
	look(withUnknown(of(subs(10, deep)), api.Record{Number: 1}), api.ErrDeep)
}

// A body that has itself in it has no end, but is too deep soon.
func TestZ1WrongOfABodyInItself(t *testing.T) {
	b := of(subs(10, api.Body{}))
	b.Values[0].Subs[0] = b
	if err := body.Wrong(linked(ordinary), 0, b); err != api.ErrDeep {
		t.Errorf("Wrong = %d", err)
	}
	if _, err := body.Join(linked(ordinary), 0, api.Body{}, b); err != api.ErrDeep {
		t.Errorf("Join's error is %d", err)
	}
}

func TestD2WrongChoices(t *testing.T) {
	wrong(t, 0, of(bits(20, 1), texts(21, "a")), api.ErrFit)
	wrong(t, 0, of(bits(20, 0), subs(22, of())), api.ErrFit)
	wrong(t, 0, of(texts(21, ""), subs(22, of())), api.ErrFit)
	wrong(t, 1, of(bits(18, 0), texts(20, ""), subs(24, of())), api.ErrFit)
	wrong(t, 1, of(texts(20, ""), bits(23, 0)), api.ErrFit)
	right(t, 1, of(bits(18, 0), texts(20, "")))
	right(t, 1, of(bits(18, 0), bits(23, 0)))
	right(t, 1, of(texts(20, ""), subs(24, of())))
}

func TestD2WrongUnknown(t *testing.T) {
	unknown := func(l ...api.Record) api.Body { return withUnknown(of(bits(1, 1)), l...) }
	good := api.Record{Number: 99, How: api.Eight, Bits: 1 << 63}
	for _, r := range []api.Record{good, {Number: 14}, {Number: 30, How: api.Four, Bits: 1<<32 - 1}, {Number: 19500}, {Number: api.MaxNumber - 1, How: api.Sized, Bytes: []byte(long(api.MaxBytes))}, {Number: 99, How: api.Sized}} {
		right(t, 0, unknown(r))
		right(t, 0, unknown(r, good, r))
		right(t, 0, withUnknown(api.Body{}, r))
	}
	for _, x := range []struct {
		r    api.Record
		want api.Errno
	}{
		{api.Record{Number: 99, How: 3}, api.ErrKind},
		{api.Record{Number: 99, How: api.Sized, Bytes: []byte(long(api.MaxBytes + 1))}, api.ErrMuch},
		{api.Record{}, api.ErrRange},
		{api.Record{Number: -1}, api.ErrRange},
		{api.Record{Number: api.MaxNumber}, api.ErrRange},
		{api.Record{Number: 99, How: api.Four, Bits: 1 << 32}, api.ErrRange},
		{api.Record{Number: 99, How: api.Sized, Bits: 1}, api.ErrFit},
		{api.Record{Number: 99, Bytes: []byte("a")}, api.ErrFit},
		{api.Record{Number: 1}, api.ErrName},
		{api.Record{Number: 22, How: api.Sized}, api.ErrName},
		// A record that is wrong, and that a field knows.
		{api.Record{Number: 1, How: 3}, api.ErrKind},
		{api.Record{Number: 1, How: api.Sized, Bits: 1}, api.ErrFit},
	} {
		wrong(t, 0, unknown(x.r), x.want)
		wrong(t, 0, withUnknown(api.Body{}, x.r), x.want)
		wrong(t, 0, unknown(good, x.r), x.want)
		// Record by record; and values are ahead of them.
		wrong(t, 0, unknown(api.Record{Number: 2}, x.r), api.ErrName)
		wrong(t, 0, unknown(x.r, api.Record{Number: 2}, api.Record{How: 3}), x.want)
		wrong(t, 0, withUnknown(of(bits(1, 1), bits(4, 2)), x.r), api.ErrRange)
		wrong(t, 0, withUnknown(of(bits(20, 1), texts(21, "")), x.r), api.ErrFit)
	}
}

// The order of a value's errors: one that has them all loses them one by one.
func TestD2WrongOrder(t *testing.T) {
	type step struct {
		want api.Errno
		mend func(*api.Value)
	}
	ahead := texts(20, "")
	for _, x := range []struct {
		bad   api.Value
		steps []step
	}{
		{api.Value{Number: 19, Bits: []uint64{9, 9}, Bytes: [][]byte{nil, nil}}, []step{
			{api.ErrNone, func(v *api.Value) { v.Number = 18 }},
			{api.ErrForm, func(v *api.Value) { v.Number = 23 }},
			{api.ErrFit, func(v *api.Value) { v.Bytes = nil }},
			{api.ErrMany, func(v *api.Value) { v.Bits = nil }},
			{api.ErrMany, func(v *api.Value) { v.Bits = []uint64{1 << 31} }},
			{api.ErrRange, func(v *api.Value) { v.Bits = []uint64{0} }},
			{api.ErrFit, func(v *api.Value) { v.Number, v.Bits, v.Subs = 24, nil, []api.Body{{}} }},
		}},
		{api.Value{Number: 26, Bits: []uint64{1}, Subs: []api.Body{of(bits(1, 0)), {}}}, []step{
			{api.ErrNone, func(v *api.Value) { v.Number = 1 }},
			{api.ErrForm, func(v *api.Value) { v.Number = 24 }},
			{api.ErrFit, func(v *api.Value) { v.Bits = nil }},
			{api.ErrMany, func(v *api.Value) { v.Subs = v.Subs[:1] }},
			{api.ErrForm, func(v *api.Value) { v.Subs = []api.Body{of(bits(4, 2))} }},
			{api.ErrRange, func(v *api.Value) { v.Subs = []api.Body{of(bits(4, 1))} }},
		}},
	} {
		v := x.bad
		for _, s := range x.steps {
			// All of a value is told ahead of anything of the next one.
			wrong(t, 1, of(ahead, v, bits(99)), s.want)
			s.mend(&v)
		}
		right(t, 1, of(ahead, v))
	}
	// As without one is told behind how many there are, and ahead of what follows.
	wrong(t, 0, of(bits(1, 0, 0)), api.ErrMany)
	wrong(t, 0, of(bits(1, 0), bits(4, 2)), api.ErrForm)
	wrong(t, 0, of(bits(4, 2), bits(5, 0)), api.ErrRange)
	// The choice is told behind what is wrong with a value's own.
	wrong(t, 0, of(bits(20, 1), texts(21, "\xff")), api.ErrText)
	wrong(t, 0, of(bits(20, 1), texts(21, long(api.MaxBytes+1))), api.ErrMuch)
	wrong(t, 0, of(bits(20, 1), subs(22, of(bits(4, 2)))), api.ErrRange)
	wrong(t, 0, of(bits(20, 1), texts(21, "a"), subs(22, of(bits(4, 2)))), api.ErrFit)
}

// Bodies that are made right are right.
func TestD2AnyRightBody(t *testing.T) {
	f := linked(ordinary)
	r := rand.New(rand.NewSource(6))
	for range 2000 {
		msg := r.Intn(2)
		b := anyBody(r, f, msg, 3)
		if err := body.Wrong(f, msg, b); err != api.OK {
			t.Fatalf("Wrong(%+v) = %d", b, err)
		}
	}
}
