package link_test

import (
	"math"
	"strconv"
	"strings"
	"testing"

	"fieldpress/api"
	"fieldpress/link"
)

// field is one that is right in any message that has no other of that number.
func field(number int) api.Field {
	return api.Field{Name: "f" + strconv.Itoa(number), Number: number, Kind: api.Int}
}

// with answers x as change leaves it.
func with(x api.Field, change func(*api.Field)) api.Field {
	change(&x)
	return x
}

func named(name string) api.Field {
	return with(field(1), func(x *api.Field) { x.Name = name })
}

func typed(number, kind int, name string) api.Field {
	return with(field(number), func(x *api.Field) { x.Kind, x.Type = kind, name })
}

func chosen(number, choice int) api.Field {
	return with(field(number), func(x *api.Field) { x.Choice = choice })
}

func many(x api.Field) api.Field {
	return with(x, func(x *api.Field) { x.Many = true })
}

func message(name string, l ...api.Field) api.Message { return api.Message{Name: name, Fields: l} }

func barring(m api.Message, l ...int) api.Message {
	m.Barred = l
	return m
}

func enum(name string, l ...api.Item) api.Enumeration { return api.Enumeration{Name: name, Items: l} }

// values are items with these, of names of their own.
func values(l ...int) []api.Item {
	var out []api.Item
	for i, v := range l {
		out = append(out, api.Item{Name: "i" + strconv.Itoa(i), Value: v})
	}
	return out
}

// file is messages, and behind them enums.
func file(l ...any) api.File {
	var f api.File
	for _, x := range l {
		switch x := x.(type) {
		case api.Message:
			f.Messages = append(f.Messages, x)
		case api.Enumeration:
			f.Enums = append(f.Enums, x)
		}
	}
	return f
}

// counted answers n things, made of their numbers from 1 on.
func counted[T any](n int, one func(int) T) []T {
	var l []T
	for i := range n {
		l = append(l, one(i+1))
	}
	return l
}

// right has file f looked at, with which nothing must be wrong.
func right(t *testing.T, f api.File) {
	t.Helper()
	if w := link.Wrong(f); w != (api.Fault{}) {
		t.Errorf("Wrong(%+v) = %+v; nothing is", f, w)
	}
}

// wrong has file f looked at, with which that must be wrong there, and linked, which must say the same.
func wrong(t *testing.T, f api.File, err api.Errno, at int) {
	t.Helper()
	want := api.Fault{Err: err, At: at}
	if w := link.Wrong(f); w != want {
		t.Errorf("Wrong(%+v) = %+v; not %+v", f, w, want)
	}
	if g, w := link.Link(f); w != want || g.Messages != nil || g.Enums != nil {
		t.Errorf("Link(%+v) = %+v, %+v; not %+v alone", f, g, w, want)
	}
}

// wrongFields has a message of these fields looked at, behind another one.
func wrongFields(t *testing.T, err api.Errno, l ...api.Field) {
	t.Helper()
	wrong(t, file(message("First", field(1)), message("A", l...), enum("E", values(0)...)), err, 1)
}

func rightFields(t *testing.T, l ...api.Field) {
	t.Helper()
	right(t, file(message("First", field(1)), message("A", l...), enum("E", values(0)...)))
}

func TestC1WrongHowMany(t *testing.T) {
	messages := func(n int) []api.Message {
		return counted(n, func(i int) api.Message { return message("M" + strconv.Itoa(i)) })
	}
	enums := func(n int) []api.Enumeration {
		return counted(n, func(i int) api.Enumeration { return enum("E"+strconv.Itoa(i), values(0)...) })
	}
	right(t, api.File{})
	right(t, api.File{Messages: []api.Message{}, Enums: []api.Enumeration{}})
	for n := 0; n <= api.MaxMessages; n++ {
		right(t, api.File{Messages: messages(n), Enums: enums(api.MaxMessages - n)})
		wrong(t, api.File{Messages: messages(n), Enums: enums(api.MaxMessages - n + 1)}, api.ErrMany, 0)
	}
	// It is told ahead of what is wrong with names.
	wrong(t, api.File{Messages: make([]api.Message, api.MaxMessages+1)}, api.ErrMany, 0)
	wrong(t, api.File{Messages: make([]api.Message, api.MaxMessages)}, api.ErrName, 0)
}

func TestC1WrongNames(t *testing.T) {
	long := strings.Repeat("a", api.MaxName)
	for _, name := range []string{"A", "z", "Z9_", "message", "enum", "Int64", "int64_", "int32", "Repeated", "Enum", long} {
		right(t, file(message(name)))
		right(t, file(enum(name, values(0)...)))
	}
	for _, name := range []string{"", "1", "_", "a-", "a b", "é", "a\x00", " a", long + "a",
		"int64", "sint64", "uint64", "bool", "fixed64", "fixed32", "string", "bytes", "repeated", "reserved", "oneof"} {
		wrong(t, file(message(name)), api.ErrName, 0)
		wrong(t, file(message("A"), message(name)), api.ErrName, 1)
		wrong(t, file(enum(name, values(0)...)), api.ErrName, 0)
		wrong(t, file(message("A"), message("B"), enum("E", values(0)...), enum(name, values(0)...)), api.ErrName, 3)
	}
	wrong(t, file(message("A"), message("B"), message("A")), api.ErrName, 2)
	wrong(t, file(enum("A", values(0)...), enum("A", values(0)...)), api.ErrName, 1)
	wrong(t, file(message("A"), message("B"), enum("E", values(0)...), enum("A", values(0)...)), api.ErrName, 3)
	right(t, file(message("A"), message("a"), enum("AA", values(0)...)))
}

func TestC1WrongNamesFirst(t *testing.T) {
	bad := message("A", make([]api.Field, api.MaxFields+1)...)
	wrong(t, file(bad, message("1")), api.ErrName, 1)
	wrong(t, file(bad, enum("E", values(0)...), enum("1")), api.ErrName, 2)
	wrong(t, file(enum("E"), enum("E")), api.ErrName, 1)
}

func TestC1WrongMessagesAheadOfEnums(t *testing.T) {
	wrong(t, file(message("A"), message("B", field(0)), enum("E")), api.ErrRange, 1)
	wrong(t, file(message("A", named("")), message("B", field(0)), enum("E")), api.ErrName, 0)
	wrong(t, file(message("A"), message("B"), enum("E"), enum("F", values(1)...)), api.ErrMany, 2)
	wrong(t, file(message("A"), message("B"), enum("E", values(0)...), enum("F", values(1)...)), api.ErrFit, 3)
}

func TestC1WrongHowManyFields(t *testing.T) {
	fields := func(n int) []api.Field { return counted(n, field) }
	barred := func(n int) []int { return counted(n, func(i int) int { return 100 + i }) }
	right(t, file(message("A", fields(api.MaxFields)...)))
	right(t, file(barring(message("A", fields(api.MaxFields)...), barred(api.MaxFields)...)))
	wrong(t, file(message("B"), message("A", fields(api.MaxFields+1)...)), api.ErrMany, 1)
	wrong(t, file(message("B"), barring(message("A"), barred(api.MaxFields+1)...)), api.ErrMany, 1)
	// It is told ahead of what is wrong with one of them.
	wrong(t, file(message("A", make([]api.Field, api.MaxFields+1)...)), api.ErrMany, 0)
	wrong(t, file(barring(message("A"), append(barred(api.MaxFields), -1)...)), api.ErrMany, 0)
	wrong(t, file(barring(message("A", fields(api.MaxFields+1)...), -1)), api.ErrMany, 0)
}

func TestC1WrongBarred(t *testing.T) {
	right(t, file(barring(message("A", field(1)), 0, 2, 2, 19000, 19999, api.MaxNumber-1)))
	right(t, file(barring(message("A", field(1)), 2), barring(message("B", field(2)), 1)))
	for _, n := range []int{-1, api.MaxNumber, math.MinInt, math.MaxInt} {
		wrong(t, file(barring(message("A"), n)), api.ErrRange, 0)
		wrong(t, file(message("B"), barring(message("A"), 1, 2, n, 3)), api.ErrRange, 1)
		wrong(t, file(barring(message("A", named("")), n)), api.ErrRange, 0)
	}
	for _, n := range []int{0, 19000, 19999} {
		wrong(t, file(barring(message("A", field(n)), n)), api.ErrRange, 0)
	}
	wrong(t, file(barring(message("A", field(1)), 1)), api.ErrFit, 0)
	wrong(t, file(message("B", field(5)), barring(message("A", field(1), field(5)), 3, 5, 6)), api.ErrFit, 1)
}

func TestC1WrongFieldNames(t *testing.T) {
	long := strings.Repeat("z", api.MaxName)
	for _, name := range []string{"a", "A", "E", "message", "int64", "repeated", "reserved", "oneof", "a_9", long} {
		rightFields(t, named(name))
	}
	for _, name := range []string{"", "1", "_a", "a b", "a.", "é", long + "z"} {
		wrongFields(t, api.ErrName, named(name))
	}
	wrongFields(t, api.ErrName, named("a"), field(2), with(field(3), func(x *api.Field) { x.Name = "a" }))
	right(t, file(message("A", named("a")), message("B", named("a"))))
}

func TestC1WrongNumbers(t *testing.T) {
	rightFields(t, field(1), field(18999), field(20000), field(api.MaxNumber-1), field(2))
	for _, n := range []int{0, -1, 19000, 19001, 19500, 19998, 19999, api.MaxNumber, math.MinInt, math.MaxInt} {
		wrongFields(t, api.ErrRange, field(1), with(field(2), func(x *api.Field) { x.Number = n }))
	}
	wrongFields(t, api.ErrFit, field(7), field(2), with(field(3), func(x *api.Field) { x.Number = 7 }))
	right(t, file(message("A", field(1)), message("B", field(1))))
}

func TestC1WrongKinds(t *testing.T) {
	for kind := api.Int; kind <= api.Sub; kind++ {
		switch kind {
		case api.Enum:
			rightFields(t, typed(1, kind, "E"), many(typed(2, kind, "E")))
		case api.Sub:
			rightFields(t, typed(1, kind, "A"), typed(2, kind, "First"), many(typed(3, kind, "A")))
		default:
			rightFields(t, typed(1, kind, ""), many(typed(2, kind, "")))
		}
	}
	for _, kind := range []int{0, -1, 11, math.MinInt, math.MaxInt} {
		wrongFields(t, api.ErrKind, field(1), typed(2, kind, ""))
		wrongFields(t, api.ErrKind, typed(1, kind, "A"))
	}
}

func TestC1WrongTypes(t *testing.T) {
	for _, name := range []string{"", "B", "a", "A ", "int64"} {
		wrongFields(t, api.ErrNone, typed(1, api.Sub, name))
		wrongFields(t, api.ErrNone, typed(1, api.Enum, name))
	}
	wrongFields(t, api.ErrNone, typed(1, api.Enum, "A"))
	if w := link.Wrong(file(message("A", typed(1, api.Sub, "E")), enum("E", values(0)...))); w != (api.Fault{Err: api.ErrNone}) {
		t.Errorf("Wrong of a Sub of an enum's type is %+v", w)
	}
	for kind := api.Int; kind <= api.Raw; kind++ {
		if kind != api.Enum {
			wrongFields(t, api.ErrFit, typed(1, kind, "A"))
			wrongFields(t, api.ErrFit, typed(1, kind, "E"))
			wrongFields(t, api.ErrFit, typed(1, kind, "?"))
		}
	}
	right(t, file(message("A", typed(1, api.Sub, "B")), message("B", typed(1, api.Sub, "A"))))
}

func TestC1WrongChoices(t *testing.T) {
	for _, l := range [][]int{{}, {0}, {1}, {1, 1}, {0, 1, 1, 0}, {1, 2}, {1, 2, 0, 3}, {1, 0, 2}, {0, 0, 1, 1, 2, 2, 0, 3, 3, 3}} {
		rightFields(t, choices(l)...)
	}
	for _, l := range [][]int{{-1}, {2}, {0, 2}, {1, 3}, {1, 1, 3}, {1, 0, 1}, {1, 2, 1}, {1, 0, 3}, {1, 2, 0, 2}, {1, 2, 0, 1}, {0, -1}, {1, -1}, {1, math.MinInt}, {math.MaxInt}, {1, 2, 0, 4}} {
		wrongFields(t, api.ErrForm, choices(l)...)
	}
	right(t, file(message("A", chosen(1, 1)), message("B", chosen(1, 1))))
	rightFields(t, many(field(1)))
	wrongFields(t, api.ErrFit, many(chosen(1, 1)))
	wrongFields(t, api.ErrFit, chosen(1, 1), many(chosen(2, 1)))
	wrongFields(t, api.ErrFit, many(with(typed(1, api.Sub, "A"), func(x *api.Field) { x.Choice = 1 })))
	wrongFields(t, api.ErrFit, many(with(typed(1, api.Enum, "E"), func(x *api.Field) { x.Choice = 1 })))
	wrongFields(t, api.ErrForm, many(chosen(1, -1)))
}

// choices are fields of these.
func choices(l []int) []api.Field {
	var out []api.Field
	for i, c := range l {
		out = append(out, chosen(i+1, c))
	}
	return out
}

// The order of a field's errors: one that has them all loses them one by one.
func TestC1WrongFieldsOrder(t *testing.T) {
	bad := api.Field{Name: "", Number: 0, Kind: 11, Type: "?", Many: true, Choice: 5}
	mend := []struct {
		err  api.Errno
		then func(*api.Field)
	}{
		{api.ErrName, func(x *api.Field) { x.Name = "f1" }},
		{api.ErrName, func(x *api.Field) { x.Name = "x" }},
		{api.ErrRange, func(x *api.Field) { x.Number = 9 }},
		{api.ErrFit, func(x *api.Field) { x.Number = 1 }},
		{api.ErrFit, func(x *api.Field) { x.Number = 2 }},
		{api.ErrKind, func(x *api.Field) { x.Kind = api.Sub }},
		{api.ErrNone, func(x *api.Field) { x.Kind = api.Enum }},
		{api.ErrNone, func(x *api.Field) { x.Kind = api.Int }},
		{api.ErrFit, func(x *api.Field) { x.Type = "" }},
		{api.ErrFit, func(x *api.Field) { x.Many = false }},
		{api.ErrForm, func(x *api.Field) { x.Choice = 1 }},
	}
	for _, m := range mend {
		wrong(t, file(barring(message("A", field(1), bad, named("")), 9)), m.err, 0)
		m.then(&bad)
	}
	right(t, file(barring(message("A", field(1), bad), 9)))
	// All of a field is told ahead of anything of the next one.
	wrongFields(t, api.ErrForm, chosen(1, 2), named(""))
}

func TestC1WrongItems(t *testing.T) {
	right(t, file(enum("E", values(0, math.MaxInt32, math.MinInt32, -1, 1)...)))
	right(t, file(enum("E", values(counted(api.MaxItems, func(i int) int { return i - 1 })...)...)))
	right(t, file(enum("E", values(0, 1)...), enum("F", values(0, 1)...)))
	right(t, file(enum("E", api.Item{Name: "E"}, api.Item{Name: "int64", Value: 1}, api.Item{Name: "oneof", Value: 2})))
	behind := func(err api.Errno, l ...api.Item) {
		t.Helper()
		wrong(t, file(message("A"), message("B"), enum("F", values(0)...), enum("E", l...)), err, 3)
	}
	behind(api.ErrMany)
	behind(api.ErrMany, values(counted(api.MaxItems+1, func(i int) int { return i - 1 })...)...)
	behind(api.ErrMany, make([]api.Item, api.MaxItems+1)...)
	for _, name := range []string{"", "1", "_", "a b", strings.Repeat("a", api.MaxName+1)} {
		behind(api.ErrName, api.Item{Name: name})
		behind(api.ErrName, api.Item{Name: "a"}, api.Item{Name: name, Value: 1})
	}
	behind(api.ErrName, api.Item{Name: "a"}, api.Item{Name: "b", Value: 1}, api.Item{Name: "a", Value: 2})
	for _, v := range []int{math.MaxInt32 + 1, math.MinInt32 - 1, 1 << 32, math.MaxInt, math.MinInt} {
		behind(api.ErrRange, values(0, v)...)
		behind(api.ErrRange, values(v)...)
	}
	for _, v := range []int{1, -1, math.MaxInt32, math.MinInt32} {
		behind(api.ErrFit, values(v)...)
		behind(api.ErrFit, values(v, 0)...)
		behind(api.ErrFit, values(0, v, v)...)
	}
	behind(api.ErrFit, values(0, 1, 0)...)
}

func TestC1WrongItemsOrder(t *testing.T) {
	wrong(t, file(enum("E", api.Item{Name: "", Value: 1 << 40})), api.ErrName, 0)
	wrong(t, file(enum("E", api.Item{Name: "a"}, api.Item{Name: "a", Value: 1 << 40})), api.ErrName, 0)
	wrong(t, file(enum("E", api.Item{Name: "a", Value: 1}, api.Item{Name: ""})), api.ErrFit, 0)
	wrong(t, file(enum("E", api.Item{Name: "a"}, api.Item{Name: "b"}, api.Item{Name: ""})), api.ErrFit, 0)
	wrong(t, file(enum("E", api.Item{Name: "a", Value: 1 << 40}, api.Item{Name: ""})), api.ErrRange, 0)
}
