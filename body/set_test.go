package body_test

import (
	"math"
	"math/rand"
	"slices"
	"testing"

	"fieldpress/api"
	"fieldpress/body"
)

// checkSet has v set in b, which must come to want, in memory of its own.
func checkSet(t *testing.T, m api.Message, b api.Body, v api.Value, want api.Body) {
	t.Helper()
	var got api.Body
	checkOnlyRead(t, b, func(b api.Body) {
		checkOnlyRead(t, of(v), func(w api.Body) {
			got = body.Set(m, b, w.Values[0])
			checkNew(t, got, w.Values[0], b)
		})
	})
	if !same(got, want) {
		t.Errorf("Set of %+v in %+v = %+v, not %+v", v, b, got, want)
	}
}

func TestD3Set(t *testing.T) {
	m := linked(ordinary).Messages[0]
	none, b := api.Body{}, of(bits(1, 5), texts(8, "x"), bits(11, 1))
	checkSet(t, m, none, bits(1, 7), of(bits(1, 7)))
	checkSet(t, m, b, bits(1, 7), of(bits(1, 7), texts(8, "x"), bits(11, 1)))
	checkSet(t, m, b, texts(8, "y"), of(bits(1, 5), texts(8, "y"), bits(11, 1)))
	checkSet(t, m, b, bits(11, 0, 0), of(bits(1, 5), texts(8, "x"), bits(11, 0, 0)))
	checkSet(t, m, b, bits(4, 1), of(bits(1, 5), bits(4, 1), texts(8, "x"), bits(11, 1)))
	checkSet(t, m, b, texts(12, "q"), of(bits(1, 5), texts(8, "x"), bits(11, 1), texts(12, "q")))
	checkSet(t, m, of(bits(2, 5)), bits(1, 6), of(bits(1, 6), bits(2, 5)))
	checkSet(t, m, b, subs(10, much()), of(bits(1, 5), texts(8, "x"), subs(10, much()), bits(11, 1)))
	checkSet(t, m, of(subs(10, much())), subs(10, of()), of(subs(10, of())))
	// What is Unknown stays.
	r := api.Record{Number: 40, How: api.Sized, Bytes: []byte("z")}
	checkSet(t, m, withUnknown(b, r), bits(1, 7), withUnknown(of(bits(1, 7), texts(8, "x"), bits(11, 1)), r))
	checkSet(t, m, withUnknown(none, r), bits(1, 0), withUnknown(none, r))
}

func TestD3SetOfNoField(t *testing.T) {
	m := linked(ordinary).Messages[0]
	for _, number := range []int{0, -1, 14, 30, 99, math.MinInt, math.MaxInt} {
		checkSet(t, m, much(), bits(number, 1), much())
		checkSet(t, m, api.Body{}, bits(number, 1), api.Body{})
		// Not even a value of that Number goes.
		checkSet(t, m, of(bits(number, 4)), bits(number, 1), of(bits(number, 4)))
		checkSet(t, m, of(bits(number, 4)), bits(number, 0), of(bits(number, 4)))
	}
	checkSet(t, api.Message{}, much(), bits(1, 1), much())
}

func TestD3SetOfWhatIsAsWithoutOne(t *testing.T) {
	m := linked(ordinary).Messages[0]
	for _, number := range []int{1, 2, 3, 4, 5, 6, 7} {
		checkSet(t, m, of(bits(number, 1), subs(13, of())), bits(number, 0), of(subs(13, of())))
		checkSet(t, m, of(subs(13, of())), bits(number, 0), of(subs(13, of())))
	}
	for _, number := range []int{8, 9} {
		checkSet(t, m, of(bits(1, 1), texts(number, "a")), texts(number, ""), of(bits(1, 1)))
		nothing := api.Value{Number: number, Bytes: [][]byte{nil}}
		checkSet(t, m, of(bits(1, 1), texts(number, "a")), nothing, of(bits(1, 1)))
		checkSet(t, m, api.Body{}, texts(number, "\x00"), of(texts(number, "\x00")))
	}
	// Not as without one: fields that are Many, have a Choice, or are a Sub.
	for _, v := range []api.Value{bits(11, 0), texts(12, ""), subs(13, of()), bits(20, 0), texts(21, ""), subs(22, of()), subs(10, of()), bits(10, 0), texts(10, "")} {
		checkSet(t, m, of(bits(1, 1)), v, of(bits(1, 1), v))
	}
	// Nor ones that have other things, or more, or nothing at all.
	for _, v := range []api.Value{
		bits(1, 0, 0), bits(1, 1), bits(1), texts(8, "", ""), texts(8, "a"), texts(8), subs(1, of()),
		{Number: 1, Bits: []uint64{0}, Bytes: [][]byte{nil}},
		{Number: 1, Bits: []uint64{0}, Subs: []api.Body{{}}},
		{Number: 8, Bytes: [][]byte{nil}, Subs: []api.Body{{}}},
		{Number: 8, Bytes: [][]byte{nil}, Bits: []uint64{1}},
	} {
		checkSet(t, m, api.Body{}, v, of(v))
	}
	// What a value has counts, not what its field would have.
	checkSet(t, m, of(bits(1, 1)), texts(1, ""), api.Body{})
	checkSet(t, m, of(texts(8, "a")), bits(8, 0), api.Body{})
}

func TestD3SetOfChoices(t *testing.T) {
	f := linked(ordinary)
	m := f.Messages[0]
	for _, v := range []api.Value{bits(20, 0), bits(20, 9), texts(21, ""), texts(21, "y"), subs(22, of()), subs(22, of(bits(1, 1)))} {
		for _, w := range []api.Value{bits(20, 5), texts(21, "w"), subs(22, of(bits(1, 3)))} {
			checkSet(t, m, of(bits(1, 1), w), v, of(bits(1, 1), v))
			checkSet(t, m, of(w), v, of(v))
		}
		// However many there are.
		checkSet(t, m, of(bits(1, 1), bits(20, 5), texts(21, "w"), subs(22, of())), v, of(bits(1, 1), v))
	}
	// Fields without one don't touch them, nor do they others.
	checkSet(t, m, of(texts(21, "w")), bits(1, 1), of(bits(1, 1), texts(21, "w")))
	checkSet(t, m, of(texts(21, "w")), bits(1, 0), of(texts(21, "w")))
	// Another choice stays; fields of one needn't rise by numbers.
	m = f.Messages[1]
	checkSet(t, m, of(bits(18, 1), texts(20, "a")), bits(23, 0), of(bits(18, 1), bits(23, 0)))
	checkSet(t, m, of(bits(18, 1), texts(20, "a")), subs(24, of()), of(texts(20, "a"), subs(24, of())))
	checkSet(t, m, of(texts(20, "a"), subs(24, of())), bits(18, 0), of(bits(18, 0), texts(20, "a")))
	// Values that no field knows stay.
	checkSet(t, m, of(bits(17, 1), texts(20, "a"), bits(21, 1)), bits(23, 0), of(bits(17, 1), bits(21, 1), bits(23, 0)))
}

// Whatever message it is: a number is that of its first field, and choices below 0 are none.
func TestD3SetOfMessagesThatAreWrong(t *testing.T) {
	m := api.Message{Fields: []api.Field{
		{Number: 1, Kind: api.Int, Choice: 1}, {Number: 2, Kind: api.Int}, {Number: 2, Kind: api.Int, Choice: 1},
		{Number: 3, Kind: api.Int, Choice: -1}, {Number: 4, Kind: api.Int, Choice: -1}, {Number: -5, Kind: 99}, {Number: 6, Kind: api.Int, Choice: 2, Many: true},
		{Number: 7, Kind: api.Int, Choice: math.MaxInt}, {Number: 8, Kind: api.Text, Choice: math.MaxInt},
	}}
	checkSet(t, m, of(bits(2, 1)), bits(1, 0), of(bits(1, 0), bits(2, 1)))
	checkSet(t, m, of(bits(1, 1)), bits(2, 2), of(bits(1, 1), bits(2, 2)))
	checkSet(t, m, of(bits(1, 1), bits(2, 1)), bits(2, 0), of(bits(1, 1)))
	checkSet(t, m, of(bits(3, 1)), bits(4, 1), of(bits(3, 1), bits(4, 1)))
	checkSet(t, m, of(bits(3, 1), bits(4, 1)), bits(4, 0), of(bits(3, 1)))
	checkSet(t, m, of(bits(3, 1)), bits(-5, 1), of(bits(-5, 1), bits(3, 1)))
	checkSet(t, m, of(bits(-5, 1)), bits(-5, 0), api.Body{})
	checkSet(t, m, of(bits(1, 1)), bits(6, 0), of(bits(1, 1), bits(6, 0)))
	checkSet(t, m, of(bits(7, 1)), texts(8, ""), of(texts(8, "")))
}

// Messages with very many fields, and bodies with very many values, take no more time than they have to.
func TestD3SetOfVeryMany(t *testing.T) {
	const n = 200000
	var m api.Message
	var b api.Body
	for i := range n {
		m.Fields = append(m.Fields, api.Field{Number: i, Kind: api.Int, Choice: i%2 + 1})
		b.Values = append(b.Values, bits(i, 1))
	}
	got := body.Set(m, b, bits(n-1, 0))
	if len(got.Values) != n/2+1 || !same(of(got.Values[n/2]), of(bits(n-1, 0))) {
		t.Errorf("%d values are left", len(got.Values))
	}
}

// What values do not rise in is not spoken of, but is no reason to panic.
func TestZ1SetOfValuesThatDoNotRise(t *testing.T) {
	m := linked(ordinary).Messages[0]
	r := rand.New(rand.NewSource(4))
	for range 3000 {
		var b api.Body
		for range r.Intn(6) {
			b.Values = append(b.Values, bits(r.Intn(26)-2, uint64(r.Intn(2))))
		}
		v := bits(r.Intn(26)-2, uint64(r.Intn(2)))
		checkOnlyRead(t, b, func(b api.Body) { checkNew(t, body.Set(m, b, v), b, v) })
	}
}

// However values are set: the last one of each number, or choice, counts, and they rise.
func TestD3TheLastOneCounts(t *testing.T) {
	f := linked(ordinary)
	r := rand.New(rand.NewSource(5))
	for range 3000 {
		msg := r.Intn(2)
		m := f.Messages[msg]
		var b api.Body
		var log []api.Value
		for range r.Intn(12) {
			v := anyValue(r, f, m.Fields[r.Intn(len(m.Fields))], 2)
			b, log = body.Set(m, b, v), append(log, v)
		}
		var want api.Body
		for i, v := range log {
			x := m.Fields[body.Field(m, v.Number)]
			overruled := slices.ContainsFunc(log[i+1:], func(w api.Value) bool {
				return w.Number == v.Number || x.Choice > 0 && m.Fields[body.Field(m, w.Number)].Choice == x.Choice
			})
			if !overruled && !without(x, v) {
				want.Values = append(want.Values, v)
			}
		}
		slices.SortFunc(want.Values, func(v, w api.Value) int { return v.Number - w.Number })
		if !same(b, want) {
			t.Fatalf("%+v, set one by one, are %+v", log, b)
		}
		if err := body.Wrong(f, msg, b); err != api.OK {
			t.Fatalf("Wrong(%+v) = %d", b, err)
		}
	}
}

// without tells of a value that goes with its field whether it is as without one.
func without(x api.Field, v api.Value) bool {
	if x.Many || x.Choice != 0 || x.Kind == api.Sub {
		return false
	}
	return slices.Equal(v.Bits, []uint64{0}) || len(v.Bytes) == 1 && string(v.Bytes[0]) == ""
}

// anyValue is one that goes with field x, of few numbers and texts; it may be as without one.
func anyValue(r *rand.Rand, f api.File, x api.Field, deep int) api.Value {
	n := 1
	if x.Many {
		n += r.Intn(3)
	}
	v := api.Value{Number: x.Number}
	for range n {
		switch x.Kind {
		case api.Text, api.Raw:
			v.Bytes = append(v.Bytes, []byte([]string{"", "a", "é", "\x00x"}[r.Intn(4)]))
		case api.Sub:
			v.Subs = append(v.Subs, anyBody(r, f, slices.IndexFunc(f.Messages, func(m api.Message) bool { return m.Name == x.Type }), deep-1))
		default:
			v.Bits = append(v.Bits, uint64(r.Intn(2)))
		}
	}
	return v
}

// anyBody is a right one of that message, at most that deep below where it stands.
func anyBody(r *rand.Rand, f api.File, msg, deep int) api.Body {
	var b api.Body
	var taken []int
	fields := slices.Clone(f.Messages[msg].Fields)
	slices.SortFunc(fields, func(x, y api.Field) int { return x.Number - y.Number })
	for _, x := range fields {
		if r.Intn(3) > 0 || deep <= 0 && x.Kind == api.Sub || x.Choice > 0 && slices.Contains(taken, x.Choice) {
			continue
		}
		if v := anyValue(r, f, x, deep); !without(x, v) {
			b.Values, taken = append(b.Values, v), append(taken, x.Choice)
		}
	}
	for range r.Intn(3) {
		b.Unknown = append(b.Unknown, api.Record{Number: 40 + r.Intn(3), How: api.Sized, Bytes: []byte("u")[:r.Intn(2)]})
	}
	return b
}
