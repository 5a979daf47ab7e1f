package body_test

import (
	"math"
	"testing"

	"fieldpress/api"
	"fieldpress/body"
)

func TestD1Field(t *testing.T) {
	m := api.Message{Name: "A", Fields: []api.Field{
		{Name: "a", Number: 7}, {Name: "b", Number: 1}, {Name: "c", Number: 7}, {Name: "d", Number: -3}, {Name: "e"}, {Name: "f", Number: math.MaxInt},
	}, Barred: []int{9}}
	for _, x := range []struct{ number, want int }{
		{7, 0}, {1, 1}, {-3, 3}, {0, 4}, {math.MaxInt, 5}, {9, -1}, {2, -1}, {-1, -1}, {math.MinInt, -1},
	} {
		if at := body.Field(m, x.number); at != x.want {
			t.Errorf("Field of %d is %d, not %d", x.number, at, x.want)
		}
		if at := body.Field(api.Message{}, x.number); at != -1 {
			t.Errorf("Field of %d in no message is %d", x.number, at)
		}
	}
	// Spare room isn't looked at.
	m.Fields = m.Fields[:2]
	if at := body.Field(m, -3); at != -1 {
		t.Errorf("a field in spare room is found: %d", at)
	}
}

func TestD1Fits(t *testing.T) {
	const top = math.MaxUint64
	numbers := []uint64{0, 1, 2, 255, 1<<31 - 1, 1 << 31, 1<<32 - 1, 1 << 32, 1<<63 - 1, 1 << 63, top - 1<<32, top - 1<<31, top - 1<<31 + 1, top - 1, top}
	most := map[int]uint64{api.Bool: 1, api.Enum: 1<<31 - 1, api.Small: 1<<32 - 1, api.Int: top, api.Zig: top, api.Nat: top, api.Fixed: top}
	for kind := api.Int; kind <= api.Small; kind++ {
		for _, n := range numbers {
			want := api.OK
			if n > most[kind] && !(kind == api.Enum && n >= top-1<<31+1) {
				want = api.ErrRange
			}
			if err := body.Fits(kind, n); err != want {
				t.Errorf("Fits(%d, %d) = %d, not %d", kind, n, err, want)
			}
		}
	}
	for _, kind := range []int{0, -1, api.Text, api.Raw, api.Sub, 11, math.MinInt, math.MaxInt} {
		for _, n := range numbers {
			if err := body.Fits(kind, n); err != api.ErrKind {
				t.Errorf("Fits(%d, %d) = %d", kind, n, err)
			}
		}
	}
}

func TestD3Own(t *testing.T) {
	wrong := withUnknown(of(bits(9, 1, 2), api.Value{Number: -1, Bits: []uint64{1}, Bytes: [][]byte{nil, {1}}, Subs: []api.Body{{}}}, bits(1)),
		api.Record{Number: -1, How: 99, Bits: 5, Bytes: []byte{1, 2}}, api.Record{})
	for _, b := range []api.Body{{}, {Values: []api.Value{}, Unknown: []api.Record{}}, much(), wrong, of(subs(4, much(), wrong))} {
		want := plain(b)
		var own api.Body
		checkOnlyRead(t, b, func(b api.Body) {
			own = body.Own(b)
			checkNew(t, own, b)
		})
		if !same(own, want) {
			t.Errorf("Own(%+v) = %+v", b, own)
		}
	}
}

// As deep as the limits go.
func TestD3OwnOfDeepOnes(t *testing.T) {
	const depth = 1 << 16
	b := body.Own(nested(10, depth, of(bits(1, 5))))
	for range depth - 1 {
		if len(b.Values) != 1 || len(b.Values[0].Subs) != 1 {
			t.Fatalf("a copy has lost something")
		}
		b = b.Values[0].Subs[0]
	}
	if !same(b, of(bits(1, 5))) {
		t.Errorf("the deepest one is %+v", b)
	}
}

func checkGet(t *testing.T, b api.Body, number int, want api.Value, found bool) {
	t.Helper()
	checkOnlyRead(t, b, func(b api.Body) {
		v, ok := body.Get(b, number)
		if ok != found || !same(of(v), of(want)) {
			t.Errorf("Get of %d is %+v, %v; not %+v, %v", number, v, ok, want, found)
		}
		checkNew(t, v, b)
	})
}

func TestD3Get(t *testing.T) {
	b := much()
	for _, v := range b.Values {
		checkGet(t, b, v.Number, v, true)
	}
	for _, number := range []int{0, -1, 14, 20, 30, 99, math.MinInt, math.MaxInt} {
		checkGet(t, b, number, api.Value{}, false)
		checkGet(t, api.Body{}, number, api.Value{}, false)
	}
	// The first one, whether or not values rise; and whatever it has.
	b = of(bits(9, 1), bits(2, 2), bits(9, 3), bits(0), bits(-4, 8, 8))
	checkGet(t, b, 9, bits(9, 1), true)
	checkGet(t, b, 2, bits(2, 2), true)
	checkGet(t, b, 0, bits(0), true)
	checkGet(t, b, -4, bits(-4, 8, 8), true)
	checkGet(t, b, 3, api.Value{}, false) // but in spare room
}

func TestD3At(t *testing.T) {
	for _, x := range []struct{ number, want int }{{9, 0}, {2, 1}, {0, 3}, {-4, 4}, {1, -1}, {math.MaxInt, -1}, {3, -1}} {
		b := of(bits(9, 1), bits(2, 2), bits(9, 3), bits(0), bits(-4, 8, 8))
		checkOnlyRead(t, b, func(b api.Body) { // 3 is in its spare room
			if at := body.At(b, x.number); at != x.want {
				t.Errorf("At of %d is %d, not %d", x.number, at, x.want)
			}
		})
		if at := body.At(api.Body{}, x.number); at != -1 {
			t.Errorf("At of %d in no body is %d", x.number, at)
		}
	}
}
