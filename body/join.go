package body

import (
	"fieldpress/api"
	"fieldpress/link"
)

// Join answers what a and b, bodies of message msg, are put together to, or what is wrong with one of them, or with that.
func Join(f api.File, msg int, a, b api.Body) (api.Body, api.Errno) {
	wrong := func(x api.Body) api.Errno { return Wrong(f, msg, x) }
	if err := firstWrong([]api.Body{a, b}, wrong); err != api.OK {
		return api.Body{}, err
	}
	c := joined(f, f.Messages[msg], Own(a), Own(b))
	if err := wrong(c); err != api.OK {
		return api.Body{}, err
	}
	return c, api.OK
}

// joined puts two bodies together that are right, and the program's own: it changes their lists, and keeps them.
func joined(f api.File, m api.Message, a, b api.Body) api.Body {
	for _, v := range b.Values {
		if at := At(a, v.Number); at >= 0 {
			v = met(f, m.Fields[Field(m, v.Number)], a.Values[at], v)
		}
		a = put(m, a, v)
	}
	a.Unknown = append(a.Unknown, b.Unknown...)
	return a
}

// met answers what comes of two values of field x.
func met(f api.File, x api.Field, first, last api.Value) api.Value {
	switch {
	case x.Many:
		first.Bits = append(first.Bits, last.Bits...)
		first.Bytes = append(first.Bytes, last.Bytes...)
		first.Subs = append(first.Subs, last.Subs...)
		return first
	case x.Kind == api.Sub:
		m := f.Messages[link.Message(f, x.Type)]
		first.Subs = []api.Body{joined(f, m, first.Subs[0], last.Subs[0])}
		return first
	}
	return last
}
