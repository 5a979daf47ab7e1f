package link

import (
	"math"
	"slices"

	"fieldpress/api"
	"fieldpress/syntax"
)

// Numbers that no field may have, though they are in range.
const (
	heldFrom = 19000
	heldTo   = 19999
)

// A rule is an error, and what breaks it. Entries are shown to it in turn, so that it may remember those ahead.
type rule[T any] struct {
	err    api.Errno
	broken func(T) bool
}

// firstBroken answers the first entry of l that breaks a rule, and the error of the first one that it breaks.
func firstBroken[T any](l []T, rules []rule[T]) api.Fault {
	for i, x := range l {
		for _, r := range rules {
			if r.broken(x) {
				return api.Fault{Err: r.err, At: i}
			}
		}
	}
	return api.Fault{}
}

// again makes a function that tells whether it was asked for the same one before.
func again[T comparable]() func(T) bool {
	var ahead []T
	return func(x T) bool {
		if slices.Contains(ahead, x) {
			return true
		}
		ahead = append(ahead, x)
		return false
	}
}

// crowded tells whether f has too many messages and enums.
func crowded(f api.File) bool {
	return len(f.Messages)+len(f.Enums) > api.MaxMessages
}

// names answers those of all messages, and behind them those of all enums.
func names(f api.File) []string {
	var l []string
	for _, m := range f.Messages {
		l = append(l, m.Name)
	}
	for _, e := range f.Enums {
		l = append(l, e.Name)
	}
	return l
}

// nameRules are those of messages' and enums' names, which may be types' words.
func nameRules() []rule[string] {
	taken := again[string]()
	return []rule[string]{
		{api.ErrName, func(s string) bool { return !syntax.Named(s) || isKept(s) || taken(s) }},
	}
}

// isKept tells whether s, where a type may stand, says something else than a message's or enum's name.
func isKept(s string) bool {
	switch s {
	case "repeated", "reserved", "oneof":
		return true
	}
	return slices.Contains(syntax.Words(), s)
}

func wrongMessage(f api.File, m api.Message) api.Errno {
	if len(m.Fields) > api.MaxFields || len(m.Barred) > api.MaxFields {
		return api.ErrMany
	}
	if slices.ContainsFunc(m.Barred, func(n int) bool { return n < 0 || n >= api.MaxNumber }) {
		return api.ErrRange
	}
	return firstBroken(m.Fields, fieldRules(f, m)).Err
}

// fieldRules are those of m's fields, in the order in which they are told.
func fieldRules(f api.File, m api.Message) []rule[api.Field] {
	nameTaken, numberTaken, misplaced := again[string](), again[int](), choiceMisplaced()
	return []rule[api.Field]{
		{api.ErrName, func(x api.Field) bool { return !syntax.Named(x.Name) || nameTaken(x.Name) }},
		{api.ErrRange, func(x api.Field) bool { return !canBeNumber(x.Number) }},
		{api.ErrFit, func(x api.Field) bool { return slices.Contains(m.Barred, x.Number) || numberTaken(x.Number) }},
		{api.ErrKind, func(x api.Field) bool { return x.Kind < api.Int || x.Kind > api.Sub }},
		{api.ErrNone, func(x api.Field) bool { return !hasType(f, x) }},
		{api.ErrFit, func(x api.Field) bool { return needlessType(x) || x.Choice > 0 && x.Many }},
		{api.ErrForm, func(x api.Field) bool { return misplaced(x.Choice) }},
	}
}

func canBeNumber(n int) bool {
	return n >= 1 && n < api.MaxNumber && (n < heldFrom || n > heldTo)
}

// hasType tells whether f has what x, if it is a Sub or an Enum, says that it is of.
func hasType(f api.File, x api.Field) bool {
	switch x.Kind {
	case api.Sub:
		return Message(f, x.Type) >= 0
	case api.Enum:
		return Enum(f, x.Type) >= 0
	}
	return true
}

// needlessType tells whether x has a Type that its kind has no use for.
func needlessType(x api.Field) bool {
	return x.Kind != api.Sub && x.Kind != api.Enum && x.Type != ""
}

// choiceMisplaced makes a function that is shown each field's choice in turn, and tells whether it can't stand there: choices are counted from 1 on, and a choice's fields follow each other.
func choiceMisplaced() func(int) bool {
	last, begun := 0, 0
	return func(choice int) bool {
		if choice != 0 && choice != last && choice != begun+1 {
			return true
		}
		last, begun = choice, max(begun, choice)
		return false
	}
}

func wrongEnum(e api.Enumeration) api.Errno {
	if len(e.Items) < 1 || len(e.Items) > api.MaxItems {
		return api.ErrMany
	}
	return firstBroken(e.Items, itemRules(e.Items[0].Value)).Err
}

// itemRules are those of an enum's items, of which the first one has the value first.
func itemRules(first int) []rule[api.Item] {
	nameTaken, valueTaken := again[string](), again[int]()
	return []rule[api.Item]{
		{api.ErrName, func(x api.Item) bool { return !syntax.Named(x.Name) || nameTaken(x.Name) }},
		{api.ErrRange, func(x api.Item) bool { return x.Value < math.MinInt32 || x.Value > math.MaxInt32 }},
		{api.ErrFit, func(x api.Item) bool { return first != 0 || valueTaken(x.Value) }},
	}
}
