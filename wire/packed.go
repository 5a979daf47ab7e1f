package wire

import "fieldpress/api"

// Packed answers what records of each of these bits would have behind their tags, in turn; nothing, if such records have no bits.
func Packed(how int, l []uint64) []byte {
	var b []byte
	if !hasBits(how) {
		return b
	}
	for _, bits := range l {
		b = putBits(b, how, bits)
	}
	return b
}

// Unpacked undoes Packed: it answers the bits that stand in b, one behind the other, or what is wrong with the first ones that are none.
func Unpacked(how int, b []byte) ([]uint64, api.Errno) {
	if !hasBits(how) {
		return nil, api.ErrKind
	}
	var l []uint64
	for len(b) > 0 {
		bits, n, err := getBits(b, how)
		if err != api.OK {
			return nil, err
		}
		l, b = append(l, bits), b[n:]
	}
	return l, api.OK
}

// hasBits tells whether records that go on like that have bits.
func hasBits(how int) bool {
	return isHow(how) && how != api.Sized
}
