package press_test

import (
	"bytes"
	"encoding/hex"
	"math/rand"
	"reflect"
	"slices"
	"strings"
	"testing"

	"fieldpress/api"
	"fieldpress/link"
	"fieldpress/syntax"
)

// ordinary: a field of each kind (1 to 10), each of them many times (11 to 13, and in B), and choices.
const ordinary = `
enum E { z = 0; y = 1; }
message A {
  reserved 30;
  int64 i = 1; sint64 g = 2; uint64 n = 3; bool b = 4; E e = 5; fixed64 d = 6; fixed32 f = 7; string s = 8; bytes r = 9; A a = 10;
  repeated bool mb = 11; repeated string ms = 12; repeated A ma = 13;
  oneof { int64 x = 20; string y = 21; A z = 22; }
}
message B {
  repeated int64 i = 1; repeated sint64 g = 2; repeated uint64 n = 3; repeated E e = 5; repeated fixed64 d = 6; repeated fixed32 f = 7; repeated bytes r = 9;
  oneof { bytes u = 20; E v = 23; } oneof { A w = 24; bool q = 18; } B c = 25;
}`

// linked has s parsed and linked, which must be a right file as a text.
func linked(s string) api.File {
	f, w := syntax.Parse(s)
	if w == (api.Fault{}) {
		f, w = link.Link(f)
	}
	if w != (api.Fault{}) {
		panic(w)
	}
	return f
}

func bits(number int, l ...uint64) api.Value { return api.Value{Number: number, Bits: l} }

func texts(number int, l ...string) api.Value {
	v := api.Value{Number: number}
	for _, s := range l {
		v.Bytes = append(v.Bytes, []byte(s))
	}
	return v
}

func subs(number int, l ...api.Body) api.Value { return api.Value{Number: number, Subs: l} }

func of(l ...api.Value) api.Body { return api.Body{Values: l} }

func withUnknown(b api.Body, l ...api.Record) api.Body {
	b.Unknown = l
	return b
}

// nested answers b as deep as that: itself, if it is 1.
func nested(number, depth int, b api.Body) api.Body {
	for range depth - 1 {
		b = of(subs(number, b))
	}
	return b
}

// plain has nil where there are no entries: nil and a list without entries are the same.
func plain(b api.Body) api.Body {
	var c api.Body
	for _, v := range b.Values {
		w := api.Value{Number: v.Number, Bits: append([]uint64(nil), v.Bits...)}
		for _, x := range v.Bytes {
			w.Bytes = append(w.Bytes, append([]byte(nil), x...))
		}
		for _, x := range v.Subs {
			w.Subs = append(w.Subs, plain(x))
		}
		c.Values = append(c.Values, w)
	}
	for _, r := range b.Unknown {
		r.Bytes = append([]byte(nil), r.Bytes...)
		c.Unknown = append(c.Unknown, r)
	}
	return c
}

func same(a, b api.Body) bool { return reflect.DeepEqual(plain(a), plain(b)) }

// room is where a list has its entries, the spare room behind them too.
type room struct{ from, to uintptr }

// rooms answers those of all lists that v reaches.
func rooms(v reflect.Value) []room {
	var l []room
	switch v.Kind() {
	case reflect.Slice:
		if n := uintptr(v.Cap()) * v.Type().Elem().Size(); n > 0 {
			l = append(l, room{v.Pointer(), v.Pointer() + n})
		}
		for i := range v.Len() {
			l = append(l, rooms(v.Index(i))...)
		}
	case reflect.Struct:
		for i := range v.NumField() {
			l = append(l, rooms(v.Field(i))...)
		}
	}
	return l
}

// checkNew has an answer be new memory: none of its lists shares any with another one, nor with what was handed in.
func checkNew(t *testing.T, answer any, handed ...any) {
	t.Helper()
	own := rooms(reflect.ValueOf(answer))
	slices.SortFunc(own, func(a, b room) int {
		if a.from < b.from {
			return -1
		}
		return 1
	})
	for i := 1; i < len(own); i++ {
		if own[i].from < own[i-1].to {
			t.Fatalf("two lists of %+v share memory", answer)
		}
	}
	for _, h := range handed {
		for _, r := range rooms(reflect.ValueOf(h)) {
			at, _ := slices.BinarySearchFunc(own, r, func(a, b room) int {
				if a.to <= b.from {
					return -1
				}
				return 1
			})
			if at < len(own) && own[at].from < r.to {
				t.Fatalf("%+v shares memory with what was handed in: %+v", answer, h)
			}
		}
	}
}

// roomy answers b with spare room behind each list, that has something in it.
func roomy(b api.Body) api.Body {
	c := api.Body{Values: make([]api.Value, 0, len(b.Values)+2), Unknown: make([]api.Record, 0, len(b.Unknown)+2)}
	for _, v := range b.Values {
		w := api.Value{Number: v.Number, Bits: append(append([]uint64{}, v.Bits...), 77, 78)[:len(v.Bits)]}
		w.Bytes = make([][]byte, 0, len(v.Bytes)+1)
		for _, x := range v.Bytes {
			w.Bytes = append(w.Bytes, append(append([]byte{}, x...), "spare"...)[:len(x)])
		}
		w.Bytes = append(w.Bytes, []byte("spare"))[:len(v.Bytes)]
		w.Subs = make([]api.Body, 0, len(v.Subs)+1)
		for _, x := range v.Subs {
			w.Subs = append(w.Subs, roomy(x))
		}
		w.Subs = append(w.Subs, of(bits(1, 1)))[:len(v.Subs)]
		c.Values = append(c.Values, w)
	}
	c.Values = append(c.Values, bits(3, 3), bits(99, 1))[:len(b.Values)]
	for _, r := range b.Unknown {
		r.Bytes = append(append([]byte{}, r.Bytes...), "spare"...)[:len(r.Bytes)]
		c.Unknown = append(c.Unknown, r)
	}
	c.Unknown = append(c.Unknown, api.Record{Number: 98}, api.Record{Number: 97})[:len(b.Unknown)]
	return c
}

// whole answers all that b's lists have, in their spare room too, as a copy.
func whole(b api.Body) api.Body {
	var c api.Body
	for _, v := range b.Values[:cap(b.Values)] {
		w := api.Value{Number: v.Number, Bits: append([]uint64(nil), v.Bits[:cap(v.Bits)]...)}
		for _, x := range v.Bytes[:cap(v.Bytes)] {
			w.Bytes = append(w.Bytes, bytes.Clone(x[:cap(x)]))
		}
		for _, x := range v.Subs[:cap(v.Subs)] {
			w.Subs = append(w.Subs, whole(x))
		}
		c.Values = append(c.Values, w)
	}
	for _, r := range b.Unknown[:cap(b.Unknown)] {
		r.Bytes = bytes.Clone(r.Bytes[:cap(r.Bytes)])
		c.Unknown = append(c.Unknown, r)
	}
	return c
}

// checkOnlyRead calls do, that is handed b, and has b be as it was, its spare room too.
func checkOnlyRead(t *testing.T, b api.Body, do func(api.Body)) {
	t.Helper()
	r := roomy(b)
	before := whole(r)
	do(r)
	if after := whole(r); !same(before, after) {
		t.Fatalf("what was handed in changed: %+v was %+v", after, before)
	}
}

// much is a right body of A that has all that bodies can have.
func much() api.Body {
	small := of(bits(1, 4), texts(8, "in"), texts(12, "p", "q"))
	return withUnknown(of(
		bits(1, 1<<64-5), bits(2, 1<<64-1), bits(3, 1<<63), bits(4, 1), bits(5, 1<<64-1), bits(6, 7), bits(7, 1<<32-1),
		texts(8, "hé"), texts(9, "\xff\x00"), subs(10, withUnknown(small, api.Record{Number: 50, How: api.Four, Bits: 3})),
		bits(11, 0, 1, 0), texts(12, "", "x", ""), subs(13, of(), small, of(subs(13, of(), small))), subs(22, of()),
	), api.Record{Number: 30, How: api.Varint, Bits: 9}, api.Record{Number: 99, How: api.Sized, Bytes: []byte("known to none")})
}

func repeat[T any](n int, x T) []T { return slices.Repeat([]T{x}, n) }

func long(n int) string { return strings.Repeat("x", n) }

// hexed answers the bytes that s has, two digits each, blanks between them or not.
func hexed(s string) []byte {
	b, err := hex.DecodeString(strings.ReplaceAll(s, " ", ""))
	if err != nil {
		panic(err)
	}
	return b
}

func hexOf(s string) string { return hex.EncodeToString([]byte(s)) }

// without tells of a value that goes with its field whether it is as without one.
func without(x api.Field, v api.Value) bool {
	if x.Many || x.Choice != 0 || x.Kind == api.Sub {
		return false
	}
	return slices.Equal(v.Bits, []uint64{0}) || len(v.Bytes) == 1 && string(v.Bytes[0]) == ""
}

func messageOf(f api.File, name string) int {
	return slices.IndexFunc(f.Messages, func(m api.Message) bool { return m.Name == name })
}

// anyNumber is one that fits its kind, often one at an edge.
func anyNumber(r *rand.Rand, kind int) uint64 {
	n := []uint64{0, 1, 2, 127, 128, 300, 1<<31 - 1, 1 << 31, 1<<32 - 1, 1<<63 - 1, 1 << 63, 1<<64 - 1, r.Uint64()}[r.Intn(13)]
	switch kind {
	case api.Bool:
		return n % 2
	case api.Enum:
		return uint64(int32(n))
	case api.Small:
		return n % (1 << 32)
	}
	return n
}

// anyValue is one that goes with field x; it may be as without one.
func anyValue(r *rand.Rand, f api.File, x api.Field, deep int) api.Value {
	n := 1
	if x.Many {
		n += r.Intn(3)
	}
	v := api.Value{Number: x.Number}
	for range n {
		switch x.Kind {
		case api.Text, api.Raw:
			v.Bytes = append(v.Bytes, []byte([]string{"", "a", "é", "\x00x"}[r.Intn(4)]))
		case api.Sub:
			v.Subs = append(v.Subs, anyBody(r, f, messageOf(f, x.Type), deep-1))
		default:
			v.Bits = append(v.Bits, anyNumber(r, x.Kind))
		}
	}
	return v
}

// anyBody is a right one of that message, at most that deep below where it stands.
func anyBody(r *rand.Rand, f api.File, msg, deep int) api.Body {
	var b api.Body
	var taken []int
	fields := slices.Clone(f.Messages[msg].Fields)
	slices.SortFunc(fields, func(x, y api.Field) int { return x.Number - y.Number })
	for _, x := range fields {
		if r.Intn(3) > 0 || deep <= 0 && x.Kind == api.Sub || x.Choice > 0 && slices.Contains(taken, x.Choice) {
			continue
		}
		if v := anyValue(r, f, x, deep); !without(x, v) {
			b.Values, taken = append(b.Values, v), append(taken, x.Choice)
		}
	}
	for range r.Intn(3) {
		b.Unknown = append(b.Unknown, api.Record{Number: 40 + r.Intn(3), How: api.Sized, Bytes: []byte("u")[:r.Intn(2)]})
	}
	return b
}
