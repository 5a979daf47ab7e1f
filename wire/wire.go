// Package wire has records as bytes: see doc/01-wire.md.
package wire

import (
	"bytes"

	"fieldpress/api"
)

// A number's byte has seven of its bits, and one that tells that another byte follows.
const (
	more     = 0x80
	lastByte = 9 // the tenth byte has room for the 64th bit alone
)

// Put answers b and the bytes of n.
func Put(b []byte, n uint64) []byte {
	for n >= more {
		b = append(b, byte(n)|more)
		n >>= 7
	}
	return append(b, byte(n))
}

// Get answers the number that stands first in b, and how many bytes it has there.
func Get(b []byte) (uint64, int, api.Errno) {
	var n uint64
	for i, x := range b {
		if i == lastByte && x > 1 {
			return 0, 0, api.ErrRange
		}
		n |= uint64(x&^more) << (7 * i)
		if x < more {
			return n, i + 1, api.OK
		}
	}
	return 0, 0, api.ErrForm
}

// Fold has numbers near 0 be small ones, whatever their sign, so that they need few bytes.
func Fold(n int64) uint64 {
	if n < 0 {
		// -n would leave its range for the least n; ^n is one less than it, and never does.
		return uint64(^n)<<1 | 1
	}
	return uint64(n) << 1
}

// Open undoes Fold.
func Open(n uint64) int64 {
	half := int64(n >> 1)
	if n&1 == 1 {
		return ^half
	}
	return half
}

// Wrong answers what is wrong with r; OK, if it is right.
func Wrong(r api.Record) api.Errno {
	switch {
	case !isHow(r.How):
		return api.ErrKind
	case r.How == api.Sized && len(r.Bytes) > api.MaxBytes:
		return api.ErrMuch
	case r.Number < 1 || r.Number >= api.MaxNumber:
		return api.ErrRange
	case r.How == api.Four && r.Bits>>32 != 0:
		return api.ErrRange
	case r.How == api.Sized && r.Bits != 0:
		return api.ErrFit
	case r.How != api.Sized && len(r.Bytes) > 0:
		return api.ErrFit
	}
	return api.OK
}

func isHow(how int) bool {
	switch how {
	case api.Varint, api.Eight, api.Sized, api.Four:
		return true
	}
	return false
}

// Tag answers b and the tag of a record of that number that goes on like that.
func Tag(b []byte, number, how int) []byte {
	return Put(b, uint64(number)*8+uint64(how))
}

// Add answers b and the bytes of r, which must be right.
func Add(b []byte, r api.Record) []byte {
	// r.Bytes may stand in b's spare room: they are read ahead of writing there.
	return append(b, recordBytes(r)...)
}

func recordBytes(r api.Record) []byte {
	b := Tag(nil, r.Number, r.How)
	if r.How == api.Sized {
		b = Put(b, uint64(len(r.Bytes)))
		return append(b, r.Bytes...)
	}
	return putBits(b, r.How, r.Bits)
}

// putBits answers b and what a record that is not Sized has behind its tag.
func putBits(b []byte, how int, bits uint64) []byte {
	if how == api.Varint {
		return Put(b, bits)
	}
	for range width(how) {
		b = append(b, byte(bits))
		bits >>= 8
	}
	return b
}

// width answers how many bytes Eight and Four have; no other one has a width of its own.
func width(how int) int {
	switch how {
	case api.Eight:
		return 8
	case api.Four:
		return 4
	}
	return 0
}

// Bytes answers the bytes of all records, in turn, or the first one that can't be had.
func Bytes(l []api.Record) ([]byte, api.Fault) {
	var b []byte
	for i, r := range l {
		if err := Wrong(r); err != api.OK {
			return nil, api.Fault{Err: err, At: i}
		}
		b = Add(b, r)
		if len(b) > api.MaxBytes {
			return nil, api.Fault{Err: api.ErrMuch, At: i}
		}
	}
	return b, api.Fault{}
}

// Parse answers the records that b has, in turn, or where the first one begins that is none.
func Parse(b []byte) ([]api.Record, api.Fault) {
	if len(b) > api.MaxBytes {
		return nil, api.Fault{Err: api.ErrMuch}
	}
	var l []api.Record
	for at := 0; at < len(b); {
		r, n, err := getRecord(b[at:])
		if err != api.OK {
			return nil, api.Fault{Err: err, At: at}
		}
		l = append(l, r)
		at += n
	}
	return l, api.Fault{}
}

// getRecord answers the record that stands first in b, and how many bytes it has there.
func getRecord(b []byte) (api.Record, int, api.Errno) {
	number, how, head, err := getTag(b)
	if err != api.OK {
		return api.Record{}, 0, err
	}
	r := api.Record{Number: number, How: how}
	var n int
	if how == api.Sized {
		r.Bytes, n, err = getSized(b[head:])
	} else {
		r.Bits, n, err = getBits(b[head:], how)
	}
	if err != api.OK {
		return api.Record{}, 0, err
	}
	return r, head + n, api.OK
}

// getTag answers what the tag that stands first in b tells, and how many bytes it has there.
func getTag(b []byte) (number, how, n int, err api.Errno) {
	tag, n, err := Get(b)
	if err != api.OK {
		return 0, 0, 0, err
	}
	// Held against the limits ahead of being an int, which may be too small for it.
	if tag/8 < 1 || tag/8 >= api.MaxNumber {
		return 0, 0, 0, api.ErrRange
	}
	number, how = int(tag/8), int(tag%8)
	if !isHow(how) {
		return 0, 0, 0, api.ErrKind
	}
	return number, how, n, api.OK
}

// getSized answers a copy of the bytes that a Sized record has, and how many it and its size take in b.
func getSized(b []byte) ([]byte, int, api.Errno) {
	size, head, err := Get(b)
	if err != api.OK {
		return nil, 0, err
	}
	rest := b[head:]
	if size > uint64(len(rest)) {
		return nil, 0, api.ErrForm
	}
	return bytes.Clone(rest[:size]), head + int(size), api.OK
}

// getBits answers the bits that stand first in b, as how has them, and how many bytes they take there.
func getBits(b []byte, how int) (uint64, int, api.Errno) {
	if how == api.Varint {
		return Get(b)
	}
	n := width(how)
	if len(b) < n {
		return 0, 0, api.ErrForm
	}
	var bits uint64
	for i, x := range b[:n] {
		bits |= uint64(x) << (8 * i)
	}
	return bits, n, api.OK
}
