package body

import (
	"slices"
	"unicode/utf8"

	"fieldpress/api"
	"fieldpress/link"
	"fieldpress/wire"
)

// Wrong tells what is wrong first with f, or with b, as a body of message msg; OK, if b is right.
func Wrong(f api.File, msg int, b api.Body) api.Errno {
	if w := link.Wrong(f); w.Err != api.OK {
		return w.Err
	}
	if msg < 0 || msg >= len(f.Messages) {
		return api.ErrNone
	}
	return wrongBody(f, f.Messages[msg], b, 1)
}

// wrongBody looks at a body that is that deep, of a message of f, which must be right.
func wrongBody(f api.File, m api.Message, b api.Body, depth int) api.Errno {
	if depth > api.MaxDeep {
		return api.ErrDeep
	}
	deeper := func(name string, sub api.Body) api.Errno {
		return wrongBody(f, f.Messages[link.Message(f, name)], sub, depth+1)
	}
	if err := wrongValues(m, b.Values, checks(deeper)); err != api.OK {
		return err
	}
	return firstWrong(b.Unknown, func(r api.Record) api.Errno { return wrongUnknown(m, r) })
}

// firstWrong answers the first error that look tells of l's entries, in turn.
func firstWrong[T any](l []T, look func(T) api.Errno) api.Errno {
	for _, x := range l {
		if err := look(x); err != api.OK {
			return err
		}
	}
	return api.OK
}

// A check answers what is wrong with a value of field x. A body's values are shown to it in turn, so that it may remember those ahead.
type check func(x api.Field, v api.Value) api.Errno

func wrongValues(m api.Message, l []api.Value, all []check) api.Errno {
	return firstWrong(l, func(v api.Value) api.Errno {
		at := Field(m, v.Number)
		if at < 0 {
			return api.ErrNone
		}
		return firstWrong(all, func(c check) api.Errno { return c(m.Fields[at], v) })
	})
}

// checks are those of one body's values, in the order in which they are told; deeper looks at a body of the message of that name.
func checks(deeper func(name string, sub api.Body) api.Errno) []check {
	return []check{
		when(api.ErrForm, notRising()),
		when(api.ErrFit, hasOthers),
		when(api.ErrMany, miscounted),
		when(api.ErrForm, asWithout),
		func(x api.Field, v api.Value) api.Errno {
			return firstWrong(v.Bits, func(n uint64) api.Errno { return Fits(x.Kind, n) })
		},
		func(x api.Field, v api.Value) api.Errno {
			return firstWrong(v.Bytes, func(b []byte) api.Errno { return wrongBytes(x.Kind, b) })
		},
		func(x api.Field, v api.Value) api.Errno {
			return firstWrong(v.Subs, func(b api.Body) api.Errno { return deeper(x.Type, b) })
		},
		when(api.ErrFit, choiceTaken()),
	}
}

// when makes a check that tells err where broken holds.
func when(err api.Errno, broken func(api.Field, api.Value) bool) check {
	return func(x api.Field, v api.Value) api.Errno {
		if broken(x, v) {
			return err
		}
		return api.OK
	}
}

// notRising makes a function that tells whether the value ahead has no lesser number.
func notRising() func(api.Field, api.Value) bool {
	last := 0 // less than any field's
	return func(_ api.Field, v api.Value) bool {
		ahead := last
		last = v.Number
		return ahead >= v.Number
	}
}

// choiceTaken makes a function that tells whether a value ahead has the same choice.
func choiceTaken() func(api.Field, api.Value) bool {
	var ahead []int
	return func(x api.Field, _ api.Value) bool {
		if x.Choice <= 0 {
			return false
		}
		taken := slices.Contains(ahead, x.Choice)
		ahead = append(ahead, x.Choice)
		return taken
	}
}

// hasOthers tells whether v has what values of field x have not.
func hasOthers(x api.Field, v api.Value) bool {
	switch x.Kind {
	case api.Text, api.Raw:
		return len(v.Bits)+len(v.Subs) > 0
	case api.Sub:
		return len(v.Bits)+len(v.Bytes) > 0
	}
	return len(v.Bytes)+len(v.Subs) > 0
}

// miscounted tells whether v, which has none but those of its kind, has too few or too many of them.
func miscounted(x api.Field, v api.Value) bool {
	n := len(v.Bits) + len(v.Bytes) + len(v.Subs)
	return n < 1 || n > api.MaxValues || n > 1 && !x.Many
}

func wrongBytes(kind int, b []byte) api.Errno {
	if len(b) > api.MaxBytes {
		return api.ErrMuch
	}
	if kind == api.Text && !utf8.Valid(b) {
		return api.ErrText
	}
	return api.OK
}

// wrongUnknown looks at a record that no field of m may know.
func wrongUnknown(m api.Message, r api.Record) api.Errno {
	if err := wire.Wrong(r); err != api.OK {
		return err
	}
	if Field(m, r.Number) >= 0 {
		return api.ErrName
	}
	return api.OK
}
