package press_test

import (
	"math/rand"
	"reflect"
	"slices"
	"strconv"
	"strings"
	"testing"

	"fieldpress/api"
	"fieldpress/link"
	"fieldpress/press"
	"fieldpress/syntax"
)

func step(kind, number, how, field, next int) api.Step {
	return api.Step{Kind: kind, Number: number, How: how, Field: field, Next: next}
}

// steady has nil where there are no entries: nil and a list without entries are the same.
func steady(l []api.Program) []api.Program {
	var out []api.Program
	for _, p := range l {
		out = append(out, append(api.Program(nil), p...))
	}
	return out
}

func samePrograms(a, b []api.Program) bool { return reflect.DeepEqual(steady(a), steady(b)) }

// copyOf answers a file with lists of its own.
func copyOf(f api.File) api.File {
	g := api.File{Messages: slices.Clone(f.Messages), Enums: slices.Clone(f.Enums)}
	for i, m := range f.Messages {
		g.Messages[i].Fields = slices.Clone(m.Fields)
		g.Messages[i].Barred = slices.Clone(m.Barred)
	}
	for i, e := range f.Enums {
		g.Enums[i].Items = slices.Clone(e.Items)
	}
	return g
}

// makes has these programs be made of f, in memory of their own; there must be nothing wrong with them.
func makes(t *testing.T, f api.File, want ...api.Program) {
	t.Helper()
	before := copyOf(f)
	got, w := press.Make(f)
	if w != (api.Fault{}) || !samePrograms(got, want) {
		t.Errorf("Make = %+v, %+v, not %+v", got, w, want)
	}
	if w := press.Wrong(got); w != (api.Fault{}) {
		t.Errorf("what is made is wrong: %+v", w)
	}
	if !reflect.DeepEqual(f, before) {
		t.Errorf("the file changed: %+v was %+v", f, before)
	}
	checkNew(t, got, f)
}

// makesNone has f be wrong: nothing but the fault is answered.
func makesNone(t *testing.T, f api.File, err api.Errno, at int) {
	t.Helper()
	got, w := press.Make(f)
	if len(got) != 0 || w != (api.Fault{Err: err, At: at}) {
		t.Errorf("Make = %+v, %+v; not %d at %d alone", got, w, err, at)
	}
}

// programs: those of the ordinary file.
var programs = []api.Program{
	{
		step(api.StepBits, 1, api.Varint, api.Int, -1),
		step(api.StepBits, 2, api.Varint, api.Zig, -1),
		step(api.StepBits, 3, api.Varint, api.Nat, -1),
		step(api.StepBits, 4, api.Varint, api.Bool, -1),
		step(api.StepBits, 5, api.Varint, api.Enum, -1),
		step(api.StepBits, 6, api.Eight, api.Fixed, -1),
		step(api.StepBits, 7, api.Four, api.Small, -1),
		step(api.StepBlob, 8, api.Sized, api.Text, -1),
		step(api.StepBlob, 9, api.Sized, api.Raw, -1),
		step(api.StepSub, 10, api.Sized, api.Sub, 0),
		step(api.StepPack, 11, api.Varint, api.Bool, -1),
		step(api.StepBlob, 12, api.Sized, api.Text, -1),
		step(api.StepSub, 13, api.Sized, api.Sub, 0),
		step(api.StepBits, 20, api.Varint, api.Int, -1),
		step(api.StepBlob, 21, api.Sized, api.Text, -1),
		step(api.StepSub, 22, api.Sized, api.Sub, 0),
	},
	{
		step(api.StepPack, 1, api.Varint, api.Int, -1),
		step(api.StepPack, 2, api.Varint, api.Zig, -1),
		step(api.StepPack, 3, api.Varint, api.Nat, -1),
		step(api.StepPack, 5, api.Varint, api.Enum, -1),
		step(api.StepPack, 6, api.Eight, api.Fixed, -1),
		step(api.StepPack, 7, api.Four, api.Small, -1),
		step(api.StepBlob, 9, api.Sized, api.Raw, -1),
		step(api.StepBits, 18, api.Varint, api.Bool, -1),
		step(api.StepBlob, 20, api.Sized, api.Raw, -1),
		step(api.StepBits, 23, api.Varint, api.Enum, -1),
		step(api.StepSub, 24, api.Sized, api.Sub, 0),
		step(api.StepSub, 25, api.Sized, api.Sub, 1),
	},
}

func TestF1Make(t *testing.T) {
	makes(t, linked(ordinary), programs...)
	makes(t, linked("message A { repeated sint64 g = 1; }"), api.Program{step(api.StepPack, 1, api.Varint, api.Zig, -1)})
	// Numbers rise, however the fields stand.
	makes(t, linked("message A { string c = 536870911; B b = 18999; repeated bytes a = 20000; sint64 d = 2; oneof { C e = 1; bool f = 3; } } message B { } message C { B c = 7; A b = 6; }"),
		api.Program{
			step(api.StepSub, 1, api.Sized, api.Sub, 2),
			step(api.StepBits, 2, api.Varint, api.Zig, -1),
			step(api.StepBits, 3, api.Varint, api.Bool, -1),
			step(api.StepSub, 18999, api.Sized, api.Sub, 1),
			step(api.StepBlob, 20000, api.Sized, api.Raw, -1),
			step(api.StepBlob, 536870911, api.Sized, api.Text, -1),
		}, nil, api.Program{step(api.StepSub, 6, api.Sized, api.Sub, 0), step(api.StepSub, 7, api.Sized, api.Sub, 1)})
}

func TestF1MakeOfLittle(t *testing.T) {
	makes(t, api.File{})
	makes(t, api.File{Messages: []api.Message{}, Enums: []api.Enumeration{}})
	makes(t, linked("enum E { z = 0; }"))
	makes(t, linked("message A { }"), nil)
	makes(t, linked("message A { reserved 3; } enum E { z = 0; } message B { }"), nil, nil)
}

func TestF1MakeOfMuch(t *testing.T) {
	var s strings.Builder
	var want []api.Program
	for m := range api.MaxMessages {
		var p api.Program
		s.WriteString("message M" + strconv.Itoa(m) + " {")
		for x := range api.MaxFields {
			number := api.MaxFields - x
			s.WriteString("M" + strconv.Itoa((m+x)%api.MaxMessages) + " f" + strconv.Itoa(x) + "=" + strconv.Itoa(number) + ";")
			p = append(p, step(api.StepSub, x+1, api.Sized, api.Sub, (m+api.MaxFields-x-1)%api.MaxMessages))
		}
		s.WriteString("}")
		want = append(want, p)
	}
	makes(t, linked(s.String()), want...)
}

func TestF1MakeLooksAtNoSpareRoom(t *testing.T) {
	f := linked("message A { int64 b = 2; string c = 3; bool a = 1; } message B { }")
	f.Messages = f.Messages[:1]
	f.Messages[0].Fields = f.Messages[0].Fields[:2]
	makes(t, f, api.Program{step(api.StepBits, 2, api.Varint, api.Int, -1), step(api.StepBlob, 3, api.Sized, api.Text, -1)})
	if x := f.Messages[0].Fields[:3][2]; x.Name != "a" || x.Number != 1 || x.Kind != api.Bool {
		t.Errorf("spare room changed: %+v", x)
	}
}

func TestF1MakeOfWrongFiles(t *testing.T) {
	for _, x := range []struct {
		s   string
		err api.Errno
		at  int
	}{
		{"message A { } message int64 { }", api.ErrName, 1},
		{"message A { } message A { }", api.ErrName, 1},
		{"message A { } message B { bool a = 1; bool a = 2; }", api.ErrName, 1},
		{"message A { bool a = 19000; }", api.ErrRange, 0},
		{"message A { } message B { } message C { reserved 1; bool a = 1; }", api.ErrFit, 2},
		{"message A { bool a = 1; bool b = 1; }", api.ErrFit, 0},
		{"message A { B b = 1; }", api.ErrNone, 0},
		{"message A { } enum E { z = 0; } enum F { }", api.ErrMany, 2},
		{"message A { } enum E { z = 1; }", api.ErrFit, 1},
		// It is not linked.
		{"message A { } message B { E e = 1; } enum E { z = 0; }", api.ErrNone, 1},
	} {
		f, w := syntax.Parse(x.s)
		if w != (api.Fault{}) {
			t.Fatalf("Parse(%q): %+v", x.s, w)
		}
		makesNone(t, f, x.err, x.at)
		if w := link.Wrong(f); w != (api.Fault{Err: x.err, At: x.at}) {
			t.Errorf("Wrong(%q) = %+v", x.s, w)
		}
	}
	makesNone(t, api.File{Messages: make([]api.Message, api.MaxMessages+1)}, api.ErrMany, 0)
	makesNone(t, api.File{Messages: make([]api.Message, 6), Enums: make([]api.Enumeration, 5)}, api.ErrMany, 0)
	f := linked(ordinary)
	f.Messages[1].Fields[2].Kind = 11
	makesNone(t, f, api.ErrKind, 1)
	f = linked(ordinary)
	f.Messages[0].Fields = append(f.Messages[0].Fields, api.Field{Name: "one", Number: 40, Kind: api.Int})
	makesNone(t, f, api.ErrMany, 0)
}

// anyFile is a right one, as such files are written.
func anyFile(r *rand.Rand) api.File {
	types := []string{"int64", "sint64", "uint64", "bool", "fixed64", "fixed32", "string", "bytes", "E", "E"}
	messages := r.Intn(5) + 1
	for m := range messages {
		types = append(types, "M"+strconv.Itoa(m))
	}
	s := "enum E { z = 0; } "
	for m := range messages {
		s += "message M" + strconv.Itoa(m) + " { "
		for x, number := range r.Perm(30)[:r.Intn(api.MaxFields+1)] {
			part := types[r.Intn(len(types))] + " f" + strconv.Itoa(x) + " = " + strconv.Itoa(number+1) + "; "
			switch r.Intn(4) {
			case 0:
				part = "repeated " + part
			case 1:
				part = "oneof { " + part + "} "
			}
			s += part
		}
		s += "} "
	}
	return linked(s)
}

func TestF1WhatIsMadeIsRight(t *testing.T) {
	r := rand.New(rand.NewSource(1))
	for range 1000 {
		f := anyFile(r)
		l, w := press.Make(f)
		if w != (api.Fault{}) || len(l) != len(f.Messages) || press.Wrong(l) != (api.Fault{}) {
			t.Fatalf("Make(%+v) = %+v, %+v, of which %+v is wrong", f, l, w, press.Wrong(l))
		}
		for i, p := range l {
			if len(p) != len(f.Messages[i].Fields) {
				t.Fatalf("of %+v is made %+v", f.Messages[i], p)
			}
		}
	}
}
