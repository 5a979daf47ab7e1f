package body

import (
	"slices"

	"fieldpress/api"
)

// Set answers b with v in the place of what can't stand beside it; b's values must rise by numbers.
func Set(m api.Message, b api.Body, v api.Value) api.Body {
	return put(m, Own(b), ownValue(v))
}

// put is Set of memory that is the program's own: it changes b's list, and keeps what v has.
func put(m api.Message, b api.Body, v api.Value) api.Body {
	at := Field(m, v.Number)
	if at < 0 {
		return b
	}
	x := m.Fields[at]
	b.Values = slices.DeleteFunc(b.Values, ousted(m, x))
	if !asWithout(x, v) {
		b.Values = slices.Insert(b.Values, placeOf(v.Number, b.Values), v)
	}
	return b
}

// ousted makes a function that tells whether a value goes, as one of field x comes.
func ousted(m api.Message, x api.Field) func(api.Value) bool {
	if x.Choice <= 0 {
		return func(v api.Value) bool { return v.Number == x.Number }
	}
	choices := choicesOf(m)
	return func(v api.Value) bool { return choices[v.Number] == x.Choice } // x's own number too
}

// choicesOf answers for each number the choice of the field that has it first.
func choicesOf(m api.Message) map[int]int {
	choices := make(map[int]int)
	for _, x := range m.Fields {
		if _, ok := choices[x.Number]; !ok {
			choices[x.Number] = x.Choice
		}
	}
	return choices
}

// placeOf answers where a value of that number comes to stand in l.
func placeOf(number int, l []api.Value) int {
	at := slices.IndexFunc(l, func(v api.Value) bool { return v.Number > number })
	if at < 0 {
		return len(l)
	}
	return at
}

// asWithout tells whether v, of field x, says no more than if it were not there.
func asWithout(x api.Field, v api.Value) bool {
	if x.Many || x.Choice > 0 || x.Kind == api.Sub {
		return false
	}
	if len(v.Bits)+len(v.Bytes)+len(v.Subs) != 1 {
		return false
	}
	return len(v.Bits) == 1 && v.Bits[0] == 0 || len(v.Bytes) == 1 && len(v.Bytes[0]) == 0
}
