package codec

import (
	"fieldpress/api"
	"fieldpress/body"
	"fieldpress/link"
	"fieldpress/wire"
)

// Bytes answers those of b, a body of message msg of f, or what is wrong with it; ErrMuch, if they are too many.
func Bytes(f api.File, msg int, b api.Body) ([]byte, api.Errno) {
	if err := body.Wrong(f, msg, b); err != api.OK {
		return nil, err
	}
	return written(f, f.Messages[msg], b)
}

// A writer answers the bytes of a body of the message of that name.
type writer func(name string, b api.Body) ([]byte, api.Errno)

// written answers the bytes of a right body.
func written(f api.File, m api.Message, b api.Body) ([]byte, api.Errno) {
	deeper := func(name string, sub api.Body) ([]byte, api.Errno) {
		return written(f, f.Messages[link.Message(f, name)], sub)
	}
	var l []api.Record
	for _, v := range b.Values {
		more, err := records(m.Fields[body.Field(m, v.Number)], v, deeper)
		if err != api.OK {
			return nil, err
		}
		l = append(l, more...)
	}
	out, w := wire.Bytes(append(l, b.Unknown...))
	return out, w.Err
}

// records answers those of a value of field x.
func records(x api.Field, v api.Value, deeper writer) ([]api.Record, api.Errno) {
	how, bits := How(x.Kind), Bits(x.Kind, v.Bits)
	switch {
	case x.Kind == api.Sub:
		return subRecords(x, v.Subs, deeper)
	case how == api.Sized:
		return sized(x.Number, v.Bytes...), api.OK
	case x.Many:
		return sized(x.Number, wire.Packed(how, bits)), api.OK
	}
	return []api.Record{{Number: x.Number, How: how, Bits: bits[0]}}, api.OK
}

func subRecords(x api.Field, l []api.Body, deeper writer) ([]api.Record, api.Errno) {
	var all [][]byte
	for _, sub := range l {
		b, err := deeper(x.Type, sub)
		if err != api.OK {
			return nil, err
		}
		all = append(all, b)
	}
	return sized(x.Number, all...), api.OK
}

// sized answers a record of that number for each.
func sized(number int, all ...[]byte) []api.Record {
	var l []api.Record
	for _, b := range all {
		l = append(l, api.Record{Number: number, How: api.Sized, Bytes: b})
	}
	return l
}
