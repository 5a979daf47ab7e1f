package link_test

import (
	"math/rand"
	"reflect"
	"slices"
	"testing"

	"fieldpress/api"
	"fieldpress/link"
	"fieldpress/syntax"
)

func TestC1MessageAndEnum(t *testing.T) {
	f := file(message("A"), message("B"), message("A"), message(""), enum("E"), enum("A"), enum("E"), enum("B"), enum(""))
	for _, x := range []struct {
		name          string
		message, enum int
	}{
		{"A", 0, 1}, {"B", 1, 3}, {"E", -1, 0}, {"", 3, 4}, {"a", -1, -1}, {"AA", -1, -1}, {"C", -1, -1}, {"A\x00", -1, -1},
	} {
		if m, e := link.Message(f, x.name), link.Enum(f, x.name); m != x.message || e != x.enum {
			t.Errorf("Message and Enum of %q are %d and %d; not %d and %d", x.name, m, e, x.message, x.enum)
		}
		if m, e := link.Message(api.File{}, x.name), link.Enum(api.File{}, x.name); m != -1 || e != -1 {
			t.Errorf("Message and Enum of %q in no file are %d and %d", x.name, m, e)
		}
	}
}

// parsed has s parsed, which must be a file as a text.
func parsed(t *testing.T, s string) api.File {
	t.Helper()
	f, w := syntax.Parse(s)
	if w != (api.Fault{}) {
		t.Fatalf("Parse(%q): %+v", s, w)
	}
	return f
}

// kinds answers those of all fields.
func kinds(f api.File) []int {
	var l []int
	for _, m := range f.Messages {
		for _, x := range m.Fields {
			l = append(l, x.Kind)
		}
	}
	return l
}

// plain has nil where a file has lists without entries: the two are the same.
func plain(f api.File) api.File {
	g := api.File{Messages: append([]api.Message(nil), f.Messages...), Enums: append([]api.Enumeration(nil), f.Enums...)}
	for i := range g.Messages {
		g.Messages[i].Fields = append([]api.Field(nil), g.Messages[i].Fields...)
		g.Messages[i].Barred = append([]int(nil), g.Messages[i].Barred...)
	}
	for i := range g.Enums {
		g.Enums[i].Items = append([]api.Item(nil), g.Enums[i].Items...)
	}
	return g
}

func sameFile(f, g api.File) bool { return reflect.DeepEqual(plain(f), plain(g)) }

func TestC1Link(t *testing.T) {
	s := "message A { reserved 9, 10; A a = 1; E e = 2; oneof { E f = 3; A g = 4; B h = 5; } repeated E i = 6; int64 j = 7; } " +
		"message B { repeated F k = 1; string E = 2; } enum E { z = 0; y = -1; } enum F { z = 0; }"
	f := parsed(t, s)
	before := parsed(t, s)
	g, w := link.Link(f)
	if w != (api.Fault{}) {
		t.Fatalf("Link: %+v", w)
	}
	if k := kinds(g); !slices.Equal(k, []int{api.Sub, api.Enum, api.Enum, api.Sub, api.Sub, api.Enum, api.Int, api.Enum, api.Text}) {
		t.Errorf("kinds of linked fields: %v", k)
	}
	want := parsed(t, s)
	for i, m := range want.Messages {
		for j := range m.Fields {
			want.Messages[i].Fields[j].Kind = g.Messages[i].Fields[j].Kind
		}
	}
	if !sameFile(g, want) {
		t.Errorf("Link = %+v; but for kinds not %+v", g, want)
	}
	if !sameFile(f, before) {
		t.Errorf("Link changed what it was handed")
	}
	if again, w := link.Link(g); w != (api.Fault{}) || !sameFile(again, g) {
		t.Errorf("linked again: %+v, %+v", again, w)
	}
}

func TestC1LinkOfLittle(t *testing.T) {
	for _, f := range []api.File{{}, {Messages: []api.Message{}, Enums: []api.Enumeration{}}, file(message("A")), file(enum("E", values(0)...))} {
		if g, w := link.Link(f); w != (api.Fault{}) || !sameFile(f, g) {
			t.Errorf("Link(%+v) = %+v, %+v", f, g, w)
		}
	}
}

// Where an enum and a message have one name, the field is a Sub still; the names are wrong all the same. And an Enum doesn't become a Sub.
func TestC1LinkOfWhatIsWrong(t *testing.T) {
	wrong(t, file(message("A", typed(1, api.Sub, "A")), enum("A", values(0)...)), api.ErrName, 1)
	wrong(t, file(message("A", typed(1, api.Enum, "A"))), api.ErrNone, 0)
	wrong(t, file(message("A"), message("B", typed(1, api.Sub, "C")), enum("E", values(0)...)), api.ErrNone, 1)
	wrong(t, file(message("A", typed(1, api.Int, "E")), enum("E", values(0)...)), api.ErrFit, 0)
	wrong(t, file(message("A", typed(1, 11, "E")), enum("E", values(0)...)), api.ErrKind, 0)
	// What is wrong is told of what the file is linked to.
	for _, x := range []struct {
		f    api.File
		want api.Fault
	}{
		{file(message("A", typed(1, api.Sub, "E")), enum("E")), api.Fault{Err: api.ErrMany, At: 1}},
		{file(message("A", typed(1, api.Sub, "E"), many(chosen(2, 1))), enum("E", values(0)...)), api.Fault{Err: api.ErrFit}},
	} {
		if g, w := link.Link(x.f); w != x.want || !sameFile(g, api.File{}) {
			t.Errorf("Link(%+v) = %+v, %+v; not %+v alone", x.f, g, w, x.want)
		}
	}
}

// A choice without fields counts in a text; the next one is then not one more than those that fields have.
func TestC1LinkOfAnEmptyChoice(t *testing.T) {
	wrong(t, parsed(t, "message A { oneof { } oneof { bool x = 1; } }"), api.ErrForm, 0)
	right(t, parsed(t, "message A { oneof { bool x = 1; } oneof { } }"))
}

func TestC1LinkSharesNothing(t *testing.T) {
	s := "message A { reserved 8, 9; E e = 1; int64 x = 2; } message B { reserved 7; bool b = 1; } enum E { z = 0; y = 1; } enum F { z = 0; }"
	f := parsed(t, s)
	g, _ := link.Link(f)
	want, _ := link.Link(parsed(t, s))
	scribble(f)
	if !sameFile(g, want) {
		t.Errorf("what was linked changed with what was handed in: %+v", g)
	}
	// Nor do lists of one answer share memory, behind their ends either.
	for i := range g.Messages {
		_ = append(g.Messages[i].Fields, api.Field{Name: "?"})
		_ = append(g.Messages[i].Barred, -1)
	}
	for i := range g.Enums {
		_ = append(g.Enums[i].Items, api.Item{Name: "?"})
	}
	_ = append(g.Messages, api.Message{Name: "?"})
	_ = append(g.Enums, api.Enumeration{Name: "?"})
	if !sameFile(g, want) {
		t.Errorf("lists of one answer share memory: %+v", g)
	}
}

// scribble spoils all that f's lists have.
func scribble(f api.File) {
	for i, m := range f.Messages {
		clear(m.Fields)
		clear(m.Barred)
		f.Messages[i].Name = "?"
	}
	for i, e := range f.Enums {
		clear(e.Items)
		f.Enums[i].Name = "?"
	}
}

// A file with very many names is told at once, though each field's type would be looked for among them all.
func TestC1LinkOfVeryManyEnds(t *testing.T) {
	const n = 300000
	f := api.File{Messages: make([]api.Message, n), Enums: make([]api.Enumeration, n)}
	for i := range f.Messages {
		f.Messages[i] = message("A", typed(1, api.Sub, "B"))
	}
	wrong(t, f, api.ErrMany, 0)
}

// anyFile is one of few names and numbers, so that it is right now and then, and wrong in many ways.
func anyFile(r *rand.Rand) api.File {
	pick := func(l ...string) string { return l[r.Intn(len(l))] }
	seldom := func(n int) bool { return r.Intn(n) == 0 }
	var f api.File
	for range r.Intn(4) {
		m := api.Message{Name: pick("A", "B", "C", "D", "E")}
		choice := 0
		for range r.Intn(5) {
			x := api.Field{Name: pick("a", "b", "c", "d", "e", "f", "g", "h"), Number: r.Intn(20), Kind: r.Intn(11), Many: seldom(4)}
			if x.Kind == api.Sub || x.Kind == api.Enum || seldom(20) {
				x.Type = pick("A", "B", "E", "F")
			}
			if seldom(3) {
				choice += r.Intn(2)
				x.Choice = choice
			}
			m.Fields = append(m.Fields, x)
		}
		for range r.Intn(3) {
			m.Barred = append(m.Barred, r.Intn(22)-1)
		}
		f.Messages = append(f.Messages, m)
	}
	for range r.Intn(3) {
		e := api.Enumeration{Name: pick("E", "F", "G", "H")}
		for i := range r.Intn(4) {
			e.Items = append(e.Items, api.Item{Name: pick("a", "b", "c", "d", "e", "f"), Value: i - r.Intn(2)*i*2})
		}
		f.Enums = append(f.Enums, e)
	}
	return f
}

// What is linked is right; linked again, or printed, parsed and linked, it is the same; what is barred is not used.
func TestC1WhatIsLinkedIsRight(t *testing.T) {
	r := rand.New(rand.NewSource(3))
	linked := 0
	for range 60000 {
		f := anyFile(r)
		g, w := link.Link(f)
		if w.Err != api.OK {
			if !sameFile(g, api.File{}) {
				t.Fatalf("Link(%+v) = %+v beside %+v", f, g, w)
			}
			continue
		}
		linked++
		right(t, g)
		if again, w := link.Link(g); w != (api.Fault{}) || !sameFile(again, g) {
			t.Fatalf("%+v linked again: %+v, %+v", g, again, w)
		}
		if back, w := link.Link(parsed(t, syntax.Print(g))); w != (api.Fault{}) || !sameFile(back, g) {
			t.Fatalf("%s\ncomes back as %+v, %+v; not %+v", syntax.Print(g), back, w, g)
		}
		for _, m := range g.Messages {
			for _, x := range m.Fields {
				if slices.Contains(m.Barred, x.Number) {
					t.Fatalf("%+v uses what is barred", g)
				}
			}
		}
	}
	if linked < 1000 {
		t.Errorf("only %d files were right", linked)
	}
}

// Whatever text is parsed, linking it ends without a panic, and says what Wrong says of what it answers.
func FuzzC1(f *testing.F) {
	f.Add("message A { A a = 1; E e = 2; oneof { E f = 3; A g = 4; } } enum E { z = 0; y = -1; }")
	f.Add("message A { reserved 5; int64 x = 5; }")
	f.Add("enum E { a = 1; }")
	f.Fuzz(func(t *testing.T, s string) {
		file, w := syntax.Parse(s)
		if w.Err != api.OK {
			return
		}
		g, w := link.Link(file)
		if w.Err != api.OK {
			if len(g.Messages)+len(g.Enums) > 0 || w.At < 0 || w.At > len(file.Messages)+len(file.Enums) {
				t.Errorf("Link of %q = %+v, %+v", s, g, w)
			}
			return
		}
		right(t, g)
		printed := syntax.Print(g)
		if len(printed) > api.MaxFile {
			return
		}
		if back, w := link.Link(parsed(t, printed)); w != (api.Fault{}) || !sameFile(back, g) {
			t.Errorf("%q comes back as %+v, %+v", s, back, w)
		}
	})
}
