package wire_test

import (
	"bytes"
	"math"
	"testing"

	"fieldpress/api"
	"fieldpress/wire"
)

// numbers: each with its fewest bytes.
var numbers = []struct {
	n uint64
	b []byte
}{
	{0, []byte{0}},
	{1, []byte{1}},
	{127, []byte{0x7f}},
	{128, []byte{0x80, 1}},
	{300, []byte{0xac, 2}},
	{1<<14 - 1, []byte{0xff, 0x7f}},
	{1 << 14, []byte{0x80, 0x80, 1}},
	{1<<32 - 1, []byte{0xff, 0xff, 0xff, 0xff, 0x0f}},
	{1<<63 - 1, []byte{0xff, 0xff, 0xff, 0xff, 0xff, 0xff, 0xff, 0xff, 0x7f}},
	{1 << 63, []byte{0x80, 0x80, 0x80, 0x80, 0x80, 0x80, 0x80, 0x80, 0x80, 1}},
	{math.MaxUint64, []byte{0xff, 0xff, 0xff, 0xff, 0xff, 0xff, 0xff, 0xff, 0xff, 1}},
}

func TestA1Put(t *testing.T) {
	for _, x := range numbers {
		if b := wire.Put(nil, x.n); !bytes.Equal(b, x.b) {
			t.Errorf("Put(nil, %d) = %x, not %x", x.n, b, x.b)
		}
		want := append([]byte{9, 8}, x.b...)
		if b := wire.Put([]byte{9, 8}, x.n); !bytes.Equal(b, want) {
			t.Errorf("Put(0908, %d) = %x, not %x", x.n, b, want)
		}
	}
}

func TestA1PutNeedsOneByteForEachSevenBits(t *testing.T) {
	for i := range 64 {
		if b := wire.Put(nil, 1<<i); len(b) != i/7+1 {
			t.Errorf("Put(nil, 1<<%d) has %d bytes, not %d", i, len(b), i/7+1)
		}
	}
}

func checkGet(t *testing.T, b []byte, n uint64, k int, err api.Errno) {
	t.Helper()
	gotN, gotK, gotErr := wire.Get(b)
	if gotN != n || gotK != k || gotErr != err {
		t.Errorf("Get(%x) = %d, %d, %d, not %d, %d, %d", b, gotN, gotK, gotErr, n, k, err)
	}
}

func TestA1Get(t *testing.T) {
	for _, x := range numbers {
		checkGet(t, x.b, x.n, len(x.b), api.OK)
		checkGet(t, append(bytes.Clone(x.b), 0xff, 0xff), x.n, len(x.b), api.OK)
		for i := range len(x.b) {
			checkGet(t, x.b[:i], 0, 0, api.ErrForm)
		}
	}
}

// chain: count bytes that tell that another one follows, and last.
func chain(count int, last ...byte) []byte {
	return append(bytes.Repeat([]byte{0x80}, count), last...)
}

func TestA1GetMoreBytesThanNeeded(t *testing.T) {
	for i := range 10 {
		checkGet(t, chain(i, 0), 0, i+1, api.OK)
	}
	checkGet(t, []byte{0x85, 0x80, 0}, 5, 3, api.OK)
	checkGet(t, chain(9, 1, 7), 1<<63, 10, api.OK)
}

func TestA1GetTenthByte(t *testing.T) {
	for x := 2; x < 256; x++ {
		checkGet(t, chain(9, byte(x)), 0, 0, api.ErrRange)
		checkGet(t, chain(9, byte(x), 0), 0, 0, api.ErrRange)
	}
	checkGet(t, chain(9), 0, 0, api.ErrForm)
	checkGet(t, nil, 0, 0, api.ErrForm)
	checkGet(t, []byte{}, 0, 0, api.ErrForm)
}

func TestA1GetLooksAtNoSpareRoom(t *testing.T) {
	checkGet(t, []byte{0x80, 1}[:1], 0, 0, api.ErrForm)
}

func TestA1FoldAndOpen(t *testing.T) {
	for _, x := range []struct {
		n int64
		u uint64
	}{
		{0, 0}, {-1, 1}, {1, 2}, {-2, 3}, {2, 4}, {63, 126}, {-64, 127}, {64, 128}, {150, 300},
		{1 << 62, 1 << 63}, {math.MaxInt64, math.MaxUint64 - 1}, {math.MinInt64, math.MaxUint64},
		{math.MinInt64 + 1, math.MaxUint64 - 2},
	} {
		if u := wire.Fold(x.n); u != x.u {
			t.Errorf("Fold(%d) = %d, not %d", x.n, u, x.u)
		}
		if n := wire.Open(x.u); n != x.n {
			t.Errorf("Open(%d) = %d, not %d", x.u, n, x.n)
		}
	}
}
