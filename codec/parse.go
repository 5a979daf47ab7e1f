package codec

import (
	"unicode/utf8"

	"fieldpress/api"
	"fieldpress/body"
	"fieldpress/link"
	"fieldpress/wire"
)

// Parse answers the body that b tells, of message msg of f, or what is wrong first.
func Parse(f api.File, msg int, b []byte) (api.Body, api.Errno) {
	if w := link.Wrong(f); w.Err != api.OK {
		return api.Body{}, w.Err
	}
	if msg < 0 || msg >= len(f.Messages) {
		return api.Body{}, api.ErrNone
	}
	return read(f, f.Messages[msg], b, 1)
}

// A reader answers the body that b tells, of the message of that name.
type reader func(name string, b []byte) (api.Body, api.Errno)

// read answers the body that b tells, which is that deep, of a message of f, which must be right.
func read(f api.File, m api.Message, b []byte, depth int) (api.Body, api.Errno) {
	if depth > api.MaxDeep {
		return api.Body{}, api.ErrDeep
	}
	l, w := wire.Parse(b)
	if w.Err != api.OK {
		return api.Body{}, w.Err
	}
	deeper := func(name string, sub []byte) (api.Body, api.Errno) {
		return read(f, f.Messages[link.Message(f, name)], sub, depth+1)
	}
	var out api.Body
	var unknown []api.Record // not in out, which is copied as each value comes
	for _, r := range l {
		at := body.Field(m, r.Number)
		if at < 0 {
			unknown = append(unknown, r)
			continue
		}
		v, err := told(m.Fields[at], r, deeper)
		if err == api.OK {
			out, err = with(f, m, out, v)
		}
		if err != api.OK {
			return api.Body{}, err
		}
	}
	out.Unknown = unknown
	return out, api.OK
}

// told answers the value of field x that r tells.
func told(x api.Field, r api.Record, deeper reader) (api.Value, api.Errno) {
	v, err := api.Value{Number: x.Number}, api.OK
	switch {
	case How(x.Kind) != api.Sized:
		v.Bits, err = toldNumbers(x, r)
	case r.How != api.Sized:
		err = api.ErrFit
	case x.Kind == api.Sub:
		v.Subs = make([]api.Body, 1)
		v.Subs[0], err = deeper(x.Type, r.Bytes)
	case x.Kind == api.Text && !utf8.Valid(r.Bytes):
		err = api.ErrText
	default:
		v.Bytes = [][]byte{r.Bytes}
	}
	return v, err
}

// toldNumbers answers those of field x that r tells: one, or all of those that are packed in it.
func toldNumbers(x api.Field, r api.Record) ([]uint64, api.Errno) {
	how, number := How(x.Kind), numberOf(x.Kind)
	switch {
	case r.How == how:
		return []uint64{number(r.Bits)}, api.OK
	case r.How == api.Sized && x.Many:
		l, err := wire.Unpacked(how, r.Bytes)
		return each(l, number), err
	}
	return nil, api.ErrFit
}

// with answers b, and what v comes to beside what is there; ErrMany, if that is too many.
func with(f api.File, m api.Message, b api.Body, v api.Value) (api.Body, api.Errno) {
	if count(v) == 0 {
		return b, api.OK
	}
	if first, ok := body.Get(b, v.Number); ok {
		var err api.Errno
		if v, err = met(f, m.Fields[body.Field(m, v.Number)], first, v); err != api.OK {
			return api.Body{}, err
		}
	}
	if count(v) > api.MaxValues {
		return api.Body{}, api.ErrMany
	}
	return body.Set(m, b, v), api.OK
}

// count answers how many v has; it has none but those of its kind.
func count(v api.Value) int {
	return len(v.Bits) + len(v.Bytes) + len(v.Subs)
}

// met answers what comes of two values of field x.
func met(f api.File, x api.Field, first, last api.Value) (api.Value, api.Errno) {
	err := api.OK
	switch {
	case x.Many:
		last.Bits = append(first.Bits, last.Bits...)
		last.Bytes = append(first.Bytes, last.Bytes...)
		last.Subs = append(first.Subs, last.Subs...)
	case x.Kind == api.Sub:
		last.Subs[0], err = body.Join(f, link.Message(f, x.Type), first.Subs[0], last.Subs[0])
	}
	return last, err
}
