package wire_test

import (
	"bytes"
	"math"
	"slices"
	"testing"

	"fieldpress/api"
	"fieldpress/wire"
)

// packs: bits, and what records of each, that go on like that, have behind their tags.
var packs = []struct {
	how int
	l   []uint64
	b   []byte
}{
	{api.Varint, nil, nil},
	{api.Eight, nil, nil},
	{api.Four, nil, nil},
	{api.Varint, []uint64{0, 1, 300, math.MaxUint64, 127, 128}, []byte{0, 1, 0xac, 2, 0xff, 0xff, 0xff, 0xff, 0xff, 0xff, 0xff, 0xff, 0xff, 1, 0x7f, 0x80, 1}},
	{api.Eight, []uint64{0x0102030405060708, math.MaxUint64}, []byte{8, 7, 6, 5, 4, 3, 2, 1, 0xff, 0xff, 0xff, 0xff, 0xff, 0xff, 0xff, 0xff}},
	{api.Four, []uint64{0, math.MaxUint32, 0x01020304}, []byte{0, 0, 0, 0, 0xff, 0xff, 0xff, 0xff, 4, 3, 2, 1}},
}

func checkUnpacked(t *testing.T, how int, b []byte, want []uint64, err api.Errno) {
	t.Helper()
	l, gotErr := wire.Unpacked(how, b)
	if !slices.Equal(l, want) || gotErr != err {
		t.Errorf("Unpacked(%d, %x) = %d, %d, not %d, %d", how, b, l, gotErr, want, err)
	}
}

func TestPackedAndUnpacked(t *testing.T) {
	for _, x := range packs {
		if b := wire.Packed(x.how, x.l); !bytes.Equal(b, x.b) {
			t.Errorf("Packed(%d, %d) = %x, not %x", x.how, x.l, b, x.b)
		}
		checkUnpacked(t, x.how, x.b, x.l, api.OK)
		var behind []byte
		for _, n := range x.l {
			behind = append(behind, wire.Add(nil, bits(1, x.how, n))[1:]...)
		}
		if !bytes.Equal(behind, x.b) {
			t.Errorf("records of %d have %x behind their tags, not %x", x.l, behind, x.b)
		}
	}
}

func TestUnpackedOfWhatIsNone(t *testing.T) {
	checkUnpacked(t, api.Varint, []byte{5, 0x80}, nil, api.ErrForm)
	checkUnpacked(t, api.Varint, append([]byte{5}, chain(9, 2)...), nil, api.ErrRange)
	checkUnpacked(t, api.Varint, append(chain(9, 2), 0x80), nil, api.ErrRange)
	checkUnpacked(t, api.Varint, []byte{0x85, 0x80, 0, 1}, []uint64{5, 1}, api.OK)
	for n := 1; n < 8; n++ {
		checkUnpacked(t, api.Eight, make([]byte, 8+n), nil, api.ErrForm)
		if n != 4 {
			checkUnpacked(t, api.Four, make([]byte, 16)[:8+n], nil, api.ErrForm)
		}
	}
}

func TestPackedOfRecordsWithoutBits(t *testing.T) {
	for _, how := range []int{api.Sized, 3, 4, 6, 7, -1, math.MinInt, math.MaxInt} {
		if b := wire.Packed(how, []uint64{1, 2}); len(b) > 0 {
			t.Errorf("Packed(%d, ..) = %x", how, b)
		}
		checkUnpacked(t, how, []byte{1, 2}, nil, api.ErrKind)
		checkUnpacked(t, how, nil, nil, api.ErrKind)
	}
}
