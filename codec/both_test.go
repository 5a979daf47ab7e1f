package codec_test

import (
	"bytes"
	"math/rand"
	"slices"
	"testing"
	"unicode/utf8"

	"fieldpress/api"
	"fieldpress/body"
	"fieldpress/codec"
	"fieldpress/wire"
)

// mustBytes answers those of a right body that has not too many of them.
func mustBytes(t *testing.T, f api.File, msg int, x api.Body) []byte {
	t.Helper()
	b, err := codec.Bytes(f, msg, x)
	if err != api.OK {
		t.Fatalf("Bytes(%+v) = %d", x, err)
	}
	return b
}

func TestE2WhatIsWrittenIsRead(t *testing.T) {
	f := linked(ordinary)
	b := mustBytes(t, f, 0, much())
	checkParse(t, f, 0, b, much(), api.OK)
	r := rand.New(rand.NewSource(1))
	for range 2000 {
		msg := r.Intn(2)
		x := anyBody(r, f, msg, 3)
		b := mustBytes(t, f, msg, x)
		checkParse(t, f, msg, b, x, api.OK)
		if t.Failed() {
			return
		}
	}
}

func TestE2BytesBehindBytesAreBodiesPutTogether(t *testing.T) {
	f := linked(ordinary)
	r := rand.New(rand.NewSource(2))
	for range 2000 {
		msg := r.Intn(2)
		x, y := anyBody(r, f, msg, 3), anyBody(r, f, msg, 3)
		b := append(mustBytes(t, f, msg, x), mustBytes(t, f, msg, y)...)
		if len(b) > api.MaxBytes {
			continue
		}
		z, err := body.Join(f, msg, x, y)
		checkParse(t, f, msg, b, z, err)
		if t.Failed() {
			return
		}
	}
}

// spread answers records of b's values, of message msg, each number in one of its own, or some of them packed together.
func spread(t *testing.T, r *rand.Rand, f api.File, msg int, b []byte) []byte {
	m := f.Messages[msg]
	var out []byte
	l, _ := wire.Parse(b)
	for _, x := range l {
		at := body.Field(m, x.Number)
		switch {
		case at >= 0 && m.Fields[at].Kind == api.Sub:
			x.Bytes = spread(t, r, f, messageOf(f, m.Fields[at].Type), x.Bytes)
		case at >= 0 && m.Fields[at].Many && codec.How(m.Fields[at].Kind) != api.Sized:
			out = append(out, unpack(t, r, x, codec.How(m.Fields[at].Kind))...)
			continue
		}
		out = wire.Add(out, x)
	}
	return out
}

func unpack(t *testing.T, r *rand.Rand, x api.Record, how int) []byte {
	l, err := wire.Unpacked(how, x.Bytes)
	if err != api.OK {
		t.Fatalf("what is packed, %x, can't be unpacked: %d", x.Bytes, err)
	}
	var out []byte
	for len(l) > 0 {
		if r.Intn(2) == 0 {
			out, l = wire.Add(out, api.Record{Number: x.Number, How: how, Bits: l[0]}), l[1:]
			continue
		}
		n := r.Intn(len(l) + 1)
		out, l = wire.Add(out, api.Record{Number: x.Number, How: api.Sized, Bytes: wire.Packed(how, l[:n])}), l[n:]
	}
	return out
}

func TestE2PackedOrNot(t *testing.T) {
	f := linked(ordinary)
	r := rand.New(rand.NewSource(3))
	for range 2000 {
		msg := r.Intn(2)
		x := anyBody(r, f, msg, 3)
		b := spread(t, r, f, msg, mustBytes(t, f, msg, x))
		if len(b) > api.MaxBytes {
			continue
		}
		checkParse(t, f, msg, b, x, api.OK)
		if t.Failed() {
			return
		}
	}
}

// less is the ordinary file, of which some fields are not known.
const less = `
enum E { z = 0; y = 1; }
message A { sint64 g = 2; bool b = 4; E e = 5; string s = 8; A a = 10; repeated string ms = 12; oneof { string y = 21; } }
message B { repeated int64 i = 1; repeated E e = 5; repeated fixed32 f = 7; oneof { E v = 23; } oneof { A w = 24; } }`

func TestE2WhoKnowsLessLosesNothing(t *testing.T) {
	f, g := linked(ordinary), linked(less)
	r := rand.New(rand.NewSource(4))
	for range 2000 {
		msg := r.Intn(2)
		x := anyBody(r, f, msg, 3)
		y, err := codec.Parse(g, msg, mustBytes(t, f, msg, x))
		if err != api.OK {
			t.Fatalf("Parse = %d, by who knows less, of %+v", err, x)
		}
		z, err := codec.Parse(f, msg, mustBytes(t, g, msg, y))
		if err != api.OK || !same(z, x) {
			t.Fatalf("%+v came back as %+v, %d", x, z, err)
		}
	}
}

// A model of Parse keeps all values of a number that came, the last one last, and makes one of them in the end.
type model struct {
	f     api.File
	depth int
}

func (o model) parse(msg int, b []byte) (out api.Body, err api.Errno) {
	if o.depth > api.MaxDeep {
		return out, api.ErrDeep
	}
	l, w := wire.Parse(b)
	if w.Err != api.OK {
		return out, w.Err
	}
	m := o.f.Messages[msg]
	came := map[int][]api.Value{}
	for _, r := range l {
		at := slices.IndexFunc(m.Fields, func(x api.Field) bool { return x.Number == r.Number })
		if at < 0 {
			out.Unknown = append(out.Unknown, r)
			continue
		}
		x := m.Fields[at]
		v, err := o.value(x, r)
		if err != api.OK {
			return api.Body{}, err
		}
		for _, y := range m.Fields {
			if y.Number != x.Number && y.Choice > 0 && y.Choice == x.Choice {
				delete(came, y.Number)
			}
		}
		came[x.Number] = append(came[x.Number], v)
		if _, err := o.one(x, came[x.Number]); err != api.OK {
			return api.Body{}, err
		}
	}
	for _, number := range codec.Numbers(m) {
		x := m.Fields[body.Field(m, number)]
		if v, _ := o.one(x, came[number]); len(v.Bits)+len(v.Bytes)+len(v.Subs) > 0 && !without(x, v) {
			out.Values = append(out.Values, v)
		}
	}
	return out, api.OK
}

// one is what all values of a field that came are, one behind the other.
func (o model) one(x api.Field, l []api.Value) (api.Value, api.Errno) {
	v := api.Value{Number: x.Number}
	for i, w := range l {
		switch {
		case x.Many:
			v.Bits, v.Bytes, v.Subs = slices.Concat(v.Bits, w.Bits), slices.Concat(v.Bytes, w.Bytes), slices.Concat(v.Subs, w.Subs)
		case x.Kind == api.Sub && i > 0:
			sub, err := body.Join(o.f, messageOf(o.f, x.Type), v.Subs[0], w.Subs[0])
			if err != api.OK {
				return v, err
			}
			v.Subs = []api.Body{sub}
		default:
			v = w
		}
	}
	if len(v.Bits)+len(v.Bytes)+len(v.Subs) > api.MaxValues {
		return v, api.ErrMany
	}
	return v, api.OK
}

func (o model) value(x api.Field, r api.Record) (v api.Value, err api.Errno) {
	v.Number = x.Number
	switch x.Kind {
	case api.Sub, api.Text, api.Raw:
		if r.How != api.Sized {
			return v, api.ErrFit
		}
		if x.Kind == api.Text && !utf8.Valid(r.Bytes) {
			return v, api.ErrText
		}
		if x.Kind != api.Sub {
			v.Bytes = [][]byte{r.Bytes}
			return v, api.OK
		}
		sub, err := model{o.f, o.depth + 1}.parse(messageOf(o.f, x.Type), r.Bytes)
		v.Subs = []api.Body{sub}
		return v, err
	}
	how := map[int]int{api.Fixed: api.Eight, api.Small: api.Four}[x.Kind]
	l := []uint64{r.Bits}
	if r.How != how {
		if r.How != api.Sized || !x.Many {
			return v, api.ErrFit
		}
		if l, err = wire.Unpacked(how, r.Bytes); err != api.OK {
			return v, err
		}
	}
	for _, n := range l {
		switch {
		case x.Kind == api.Zig && n%2 == 0:
			n /= 2
		case x.Kind == api.Zig:
			n = -(n/2 + 1)
		case x.Kind == api.Bool && n > 0:
			n = 1
		case x.Kind == api.Enum:
			n %= 1 << 32
			if n >= 1<<31 {
				n -= 1 << 32
			}
		}
		v.Bits = append(v.Bits, n)
	}
	return v, api.OK
}

// broken answers bytes near b: some changed, taken out, or put in.
func broken(r *rand.Rand, b []byte) []byte {
	b = bytes.Clone(b)
	for range r.Intn(3) {
		at := r.Intn(len(b) + 1)
		switch some := byte(r.Intn(256)); {
		case at == len(b) || r.Intn(3) == 0:
			b = slices.Insert(b, at, some)
		case r.Intn(2) == 0:
			b = slices.Delete(b, at, at+1)
		default:
			b[at] ^= 1 << r.Intn(8)
		}
	}
	return b
}

func TestE2ParseAgainstAModel(t *testing.T) {
	f := linked(ordinary)
	r := rand.New(rand.NewSource(5))
	told := map[api.Errno]int{}
	for range 8000 {
		msg := r.Intn(2)
		b := mustBytes(t, f, msg, anyBody(r, f, msg, 2))
		if r.Intn(2) == 0 {
			b = append(b, spread(t, r, f, msg, mustBytes(t, f, msg, anyBody(r, f, msg, 1)))...)
		}
		b = broken(r, b)
		want, err := model{f, 1}.parse(msg, b)
		if err == api.OK && len(b) > api.MaxBytes {
			continue
		}
		checkParse(t, f, msg, b, want, err)
		told[err]++
		if t.Failed() {
			return
		}
	}
	for _, err := range []api.Errno{api.OK, api.ErrKind, api.ErrForm, api.ErrRange, api.ErrFit, api.ErrText} {
		if told[err] < 5 {
			t.Errorf("error %d was told %d times only: %v", err, told[err], told)
		}
	}
}

// What is parsed of any bytes is right, and is the same when it is written and parsed again.
func FuzzE2ParseOfAnyBytes(f *testing.F) {
	file := linked(ordinary)
	for msg := range 2 {
		r := rand.New(rand.NewSource(6))
		for range 20 {
			b, _ := codec.Bytes(file, msg, anyBody(r, file, msg, 2))
			f.Add(msg, b)
		}
	}
	f.Add(0, hexed(deep(api.MaxDeep+1, "0801")))
	f.Fuzz(func(t *testing.T, msg int, b []byte) {
		x, err := codec.Parse(file, msg, b)
		if err != api.OK {
			if !same(x, api.Body{}) {
				t.Fatalf("Parse(%x) = %+v, %d", b, x, err)
			}
			return
		}
		if err := body.Wrong(file, msg, x); err != api.OK {
			t.Fatalf("Parse(%x) = %+v, which is wrong: %d", b, x, err)
		}
		c, err := codec.Bytes(file, msg, x)
		if err == api.ErrMuch { // an Enum's number may have had fewer bytes
			return
		}
		checkParse(t, file, msg, c, x, err)
	})
}
