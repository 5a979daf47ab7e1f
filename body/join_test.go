package body_test

import (
	"math/rand"
	"slices"
	"testing"

	"fieldpress/api"
	"fieldpress/body"
)

// checkJoin has a and b put together, as bodies of message msg, to want (nothing, beside an error), in memory of its own.
func checkJoin(t *testing.T, msg int, a, b, want api.Body, err api.Errno) {
	t.Helper()
	f := linked(ordinary)
	var got api.Body
	var gotErr api.Errno
	checkOnlyRead(t, a, func(a api.Body) {
		checkOnlyRead(t, b, func(b api.Body) {
			got, gotErr = body.Join(f, msg, a, b)
			checkNew(t, got, a, b, f)
		})
	})
	if gotErr != err || !same(got, want) {
		t.Errorf("Join(%+v, %+v) = %+v, %d; not %+v, %d", a, b, got, gotErr, want, err)
	}
}

// joins has a and b put together to want.
func joins(t *testing.T, msg int, a, b, want api.Body) {
	t.Helper()
	checkJoin(t, msg, a, b, want, api.OK)
}

func TestD4JoinOfNothing(t *testing.T) {
	joins(t, 0, api.Body{}, api.Body{}, api.Body{})
	joins(t, 0, much(), api.Body{}, much())
	joins(t, 0, api.Body{}, much(), much())
	joins(t, 1, api.Body{Values: []api.Value{}}, api.Body{Unknown: []api.Record{}}, api.Body{})
}

func TestD4JoinTheLastOneCounts(t *testing.T) {
	joins(t, 0, of(bits(1, 1)), of(bits(1, 2)), of(bits(1, 2)))
	joins(t, 0, of(bits(1, 1), texts(8, "a")), of(bits(4, 1)), of(bits(1, 1), bits(4, 1), texts(8, "a")))
	joins(t, 0, of(bits(3, 1), texts(8, "a")), of(bits(1, 2), texts(8, "b"), texts(9, "c")), of(bits(1, 2), bits(3, 1), texts(8, "b"), texts(9, "c")))
	for number := 1; number <= 7; number++ {
		joins(t, 0, of(bits(number, 1)), of(bits(number, 1)), of(bits(number, 1)))
	}
}

func TestD4JoinOfMany(t *testing.T) {
	joins(t, 0, of(bits(11, 0, 1)), of(bits(11, 1)), of(bits(11, 0, 1, 1)))
	joins(t, 0, of(texts(12, "a", "")), of(texts(12, "b", "a")), of(texts(12, "a", "", "b", "a")))
	joins(t, 0, of(subs(13, of(bits(1, 1)), of())), of(subs(13, of(bits(1, 2)))), of(subs(13, of(bits(1, 1)), of(), of(bits(1, 2)))))
	joins(t, 0, of(texts(12, "a")), of(bits(11, 1)), of(bits(11, 1), texts(12, "a")))
	joins(t, 1, of(bits(2, 1, 2), texts(9, "x")), of(bits(2, 0), bits(7, 5), texts(9, "")), of(bits(2, 1, 2, 0), bits(7, 5), texts(9, "x", "")))
	// Put together with itself, it is there twice as often.
	b := of(texts(12, "x", "y", "z"))
	joins(t, 0, b, b, of(texts(12, "x", "y", "z", "x", "y", "z")))
}

func TestD4JoinOfSubs(t *testing.T) {
	joins(t, 0, of(subs(10, of(bits(1, 1), bits(3, 3)))), of(subs(10, of(bits(1, 2), texts(8, "a")))), of(subs(10, of(bits(1, 2), bits(3, 3), texts(8, "a")))))
	joins(t, 0, of(subs(10, of(bits(1, 1)))), of(subs(10, of())), of(subs(10, of(bits(1, 1)))))
	joins(t, 0, of(subs(10, of())), of(subs(10, of())), of(subs(10, of())))
	joins(t, 0, of(subs(10, of(bits(11, 1)))), of(subs(10, of(bits(11, 0)))), of(subs(10, of(bits(11, 1, 0)))))
	joins(t, 0, nested(10, 5, of(bits(1, 1), texts(12, "a"))), nested(10, 5, of(bits(1, 2), texts(12, "b"))), nested(10, 5, of(bits(1, 2), texts(12, "a", "b"))))
	joins(t, 0, nested(10, api.MaxDeep, of(bits(1, 1))), nested(10, api.MaxDeep, of(bits(2, 1))), nested(10, api.MaxDeep, of(bits(1, 1), bits(2, 1))))
	u, v := api.Record{Number: 50, Bits: 1}, api.Record{Number: 50, Bits: 2}
	joins(t, 0, of(subs(10, withUnknown(of(), u))), of(subs(10, withUnknown(of(), v, u))), of(subs(10, withUnknown(of(), u, v, u))))
	// By the message that the field is of: 1 is Many in B, not in A.
	joins(t, 1, of(subs(24, of(bits(1, 1)))), of(subs(24, of(bits(1, 2)))), of(subs(24, of(bits(1, 2)))))
	joins(t, 1, of(subs(25, of(bits(1, 1)))), of(subs(25, of(bits(1, 2)))), of(subs(25, of(bits(1, 1, 2)))))
}

func TestD4JoinOfChoices(t *testing.T) {
	some := []api.Value{bits(20, 0), bits(20, 4), texts(21, ""), texts(21, "a"), subs(22, of())}
	for _, v := range some {
		for _, w := range some {
			joins(t, 0, of(bits(1, 1), v), of(w), of(bits(1, 1), w))
		}
	}
	// A Sub of a choice is put together with itself, but not with what was there ahead of another one.
	joins(t, 0, of(subs(22, of(bits(1, 1)))), of(subs(22, of(bits(3, 3)))), of(subs(22, of(bits(1, 1), bits(3, 3)))))
	joins(t, 0, of(subs(22, of(bits(1, 1)))), of(bits(20, 0)), of(bits(20, 0)))
	joins(t, 0, of(bits(20, 1)), of(subs(22, of(bits(3, 3)))), of(subs(22, of(bits(3, 3)))))
	// And in what is put together.
	joins(t, 0, of(subs(10, of(bits(20, 1)))), of(subs(10, of(texts(21, "a")))), of(subs(10, of(texts(21, "a")))))
	joins(t, 0, of(subs(22, of(bits(20, 1)))), of(subs(22, of(texts(21, "")))), of(subs(22, of(texts(21, "")))))
	// Other choices stay.
	joins(t, 1, of(bits(18, 1), texts(20, "a")), of(bits(23, 0)), of(bits(18, 1), bits(23, 0)))
	joins(t, 1, of(texts(20, "a"), subs(24, of())), of(bits(18, 0)), of(bits(18, 0), texts(20, "a")))
}

func TestD4JoinOfUnknown(t *testing.T) {
	u, v := api.Record{Number: 99, Bits: 1}, api.Record{Number: 30, How: api.Sized, Bytes: []byte("v")}
	joins(t, 0, withUnknown(of(), u, v), withUnknown(of(), v, u), withUnknown(of(), u, v, v, u))
	joins(t, 0, withUnknown(of(bits(1, 1)), u), of(bits(1, 2)), withUnknown(of(bits(1, 2)), u))
	joins(t, 0, of(bits(1, 1)), withUnknown(of(), v), withUnknown(of(bits(1, 1)), v))
	joins(t, 0, withUnknown(of(), v), withUnknown(of(), v), withUnknown(of(), v, v))
}

func TestD4JoinOfTooMany(t *testing.T) {
	ones := func(n int) []uint64 { return repeat(n, uint64(1)) }
	full, most := of(bits(11, ones(api.MaxValues)...)), of(bits(11, ones(api.MaxValues-1)...))
	joins(t, 0, most, of(bits(11, 1)), full)
	joins(t, 0, full, api.Body{}, full)
	joins(t, 0, full, of(bits(1, 1)), of(bits(1, 1), full.Values[0]))
	none := api.Body{}
	checkJoin(t, 0, full, of(bits(11, 1)), none, api.ErrMany)
	checkJoin(t, 0, of(bits(11, 1)), full, none, api.ErrMany)
	checkJoin(t, 0, full, full, none, api.ErrMany)
	half := of(subs(13, repeat(api.MaxValues/2, of())...))
	joins(t, 0, half, half, of(subs(13, repeat(api.MaxValues, of())...)))
	checkJoin(t, 0, half, of(subs(13, repeat(api.MaxValues/2+1, of())...)), none, api.ErrMany)
	checkJoin(t, 0, of(texts(12, repeat(api.MaxValues, "a")...)), of(texts(12, "")), none, api.ErrMany)
	// However deep.
	checkJoin(t, 0, nested(10, api.MaxDeep, full), nested(10, api.MaxDeep, of(bits(11, 1))), none, api.ErrMany)
	checkJoin(t, 0, nested(22, 3, full), nested(22, 3, of(bits(11, 1))), none, api.ErrMany)
	// But not where they don't come together.
	joins(t, 0, nested(13, 2, full), nested(13, 2, full), of(subs(13, full, full)))
	joins(t, 0, of(subs(22, full)), of(bits(20, 1)), of(bits(20, 1)))
}

// What is wrong is told of the first one ahead of the last one; and each of its errors by wrong (of D2).
func TestD4JoinOfWrongOnes(t *testing.T) {
	none := api.Body{}
	form, rng := of(bits(1, 0)), of(bits(4, 2))
	checkJoin(t, 0, form, rng, none, api.ErrForm)
	checkJoin(t, 0, rng, form, none, api.ErrRange)
	checkJoin(t, 0, form, much(), none, api.ErrForm)
	checkJoin(t, 0, much(), rng, none, api.ErrRange)
	checkJoin(t, 2, form, rng, none, api.ErrNone)
	checkJoin(t, -1, none, none, none, api.ErrNone)
	// Ahead of what is wrong with both together.
	full := of(bits(11, repeat(api.MaxValues, uint64(1))...))
	checkJoin(t, 0, full, of(bits(11, 2)), none, api.ErrRange)
	checkJoin(t, 0, of(bits(11, 1), bits(11, 1)), full, none, api.ErrForm)
	if c, err := body.Join(api.File{}, 0, none, none); err != api.ErrNone || !same(c, none) {
		t.Errorf("Join of no file = %+v, %d", c, err)
	}
}

// model puts right bodies together number by number, in another way than the program does.
func model(f api.File, msg int, a, b api.Body) api.Body {
	var c api.Body
	c.Unknown = slices.Concat(a.Unknown, b.Unknown)
	fields := slices.Clone(f.Messages[msg].Fields)
	slices.SortFunc(fields, func(x, y api.Field) int { return x.Number - y.Number })
	find := func(in api.Body, of func(api.Field) bool) (v api.Value) {
		for _, w := range in.Values {
			if of(fields[slices.IndexFunc(fields, func(x api.Field) bool { return x.Number == w.Number })]) {
				v = w
			}
		}
		return v
	}
	for _, x := range fields {
		isX := func(y api.Field) bool { return y.Number == x.Number }
		v, w := find(a, isX), find(b, isX)
		chosen := find(b, func(y api.Field) bool { return x.Choice > 0 && y.Choice == x.Choice })
		switch {
		case v.Number == 0 && w.Number == 0:
			continue
		case w.Number == 0 && chosen.Number != 0:
			continue
		case w.Number == 0:
			w = v
		case v.Number == 0:
		case x.Many:
			w = api.Value{Number: x.Number, Bits: slices.Concat(v.Bits, w.Bits), Bytes: slices.Concat(v.Bytes, w.Bytes), Subs: slices.Concat(v.Subs, w.Subs)}
		case x.Kind == api.Sub:
			sub := slices.IndexFunc(f.Messages, func(m api.Message) bool { return m.Name == x.Type })
			w = subs(x.Number, model(f, sub, v.Subs[0], w.Subs[0]))
		}
		c.Values = append(c.Values, w)
	}
	return c
}

func TestD4JoinOfAnyBodies(t *testing.T) {
	f := linked(ordinary)
	r := rand.New(rand.NewSource(7))
	for range 1500 {
		msg := r.Intn(2)
		a, b := anyBody(r, f, msg, 3), anyBody(r, f, msg, 3)
		joins(t, msg, a, b, model(f, msg, a, b))
		if t.Failed() {
			return
		}
	}
}

// However they are put together, the first two first, or the last two: where no Sub has a choice, it is the same.
func TestD4HoweverPutTogether(t *testing.T) {
	f := linked("message A { int64 i = 1; repeated string s = 2; A a = 3; repeated A m = 4; oneof { bool b = 5; bytes r = 6; } }")
	r := rand.New(rand.NewSource(8))
	join := func(a, b api.Body) api.Body {
		c, err := body.Join(f, 0, a, b)
		if err != api.OK {
			t.Fatalf("Join(%+v, %+v): %d", a, b, err)
		}
		return c
	}
	for range 1500 {
		a, b, c := anyBody(r, f, 0, 3), anyBody(r, f, 0, 3), anyBody(r, f, 0, 3)
		if x, y := join(join(a, b), c), join(a, join(b, c)); !same(x, y) {
			t.Fatalf("%+v, %+v and %+v are put together to %+v, and to %+v", a, b, c, x, y)
		}
	}
}
