package codec_test

import (
	"math"
	"slices"
	"testing"

	"fieldpress/api"
	"fieldpress/codec"
)

func TestE1How(t *testing.T) {
	for kind, how := range map[int]int{
		api.Int: api.Varint, api.Zig: api.Varint, api.Nat: api.Varint, api.Bool: api.Varint, api.Enum: api.Varint,
		api.Fixed: api.Eight, api.Small: api.Four, api.Text: api.Sized, api.Raw: api.Sized, api.Sub: api.Sized,
		0: api.Varint, -1: api.Varint, 11: api.Varint, math.MinInt: api.Varint, math.MaxInt: api.Varint,
	} {
		if got := codec.How(kind); got != how {
			t.Errorf("How(%d) = %d, not %d", kind, got, how)
		}
	}
}

func checkNumbers(t *testing.T, m api.Message, want ...int) {
	t.Helper()
	before := slices.Clone(m.Fields)
	got := codec.Numbers(m)
	if !slices.Equal(got, want) {
		t.Errorf("Numbers = %d, not %d", got, want)
	}
	checkNew(t, got, m)
	if !slices.Equal(m.Fields, before) {
		t.Errorf("the message's fields changed: %+v", m.Fields)
	}
}

func TestE1Numbers(t *testing.T) {
	f := linked(ordinary)
	checkNumbers(t, f.Messages[0], 1, 2, 3, 4, 5, 6, 7, 8, 9, 10, 11, 12, 13, 20, 21, 22)
	checkNumbers(t, f.Messages[1], 1, 2, 3, 5, 6, 7, 9, 18, 20, 23, 24, 25)
	checkNumbers(t, linked("message A { }").Messages[0])
	checkNumbers(t, linked("message A { reserved 3; }").Messages[0])
	checkNumbers(t, linked("message A { bool c = 536870911; bool b = 1; bool a = 20000; bool d = 2; }").Messages[0], 1, 2, 20000, 536870911)
	checkNumbers(t, api.Message{Fields: []api.Field{}, Barred: []int{1}})
	// Of any message, a wrong one too.
	checkNumbers(t, api.Message{Fields: []api.Field{{Number: math.MaxInt}, {Number: 0, Kind: 77}, {Number: math.MinInt}, {Number: -1}}}, math.MinInt, -1, 0, math.MaxInt)
	// None of the spare room.
	checkNumbers(t, api.Message{Fields: []api.Field{{Number: 2}, {Number: 1}, {Number: 0}}[:2]}, 1, 2)
}

func TestE1Bits(t *testing.T) {
	l := []uint64{0, 1, 2, 1<<63 - 1, 1 << 63, minus - 1, minus}
	folded := []uint64{0, 2, 4, minus - 1, minus, 3, 1}
	for kind := -1; kind < 12; kind++ {
		want := l
		if kind == api.Zig {
			want = folded
		}
		handed := append(slices.Clone(l), 77)[:len(l)]
		got := codec.Bits(kind, handed)
		if !slices.Equal(got, want) {
			t.Errorf("Bits(%d) = %d, not %d", kind, got, want)
		}
		if !slices.Equal(handed[:len(l)+1], append(slices.Clone(l), 77)) {
			t.Errorf("what was handed in changed: %d", handed)
		}
		checkNew(t, got, handed)
		if len(codec.Bits(kind, nil))+len(codec.Bits(kind, []uint64{})) != 0 {
			t.Errorf("Bits(%d) of none are some", kind)
		}
	}
}
