package syntax_test

import (
	"fmt"
	"reflect"
	"strings"
	"testing"

	"fieldpress/api"
	"fieldpress/syntax"
)

// plain has nil where a file has lists without entries: the two are the same.
func plain(f api.File) api.File {
	var out api.File
	for _, m := range f.Messages {
		m.Fields = append([]api.Field(nil), m.Fields...)
		m.Barred = append([]int(nil), m.Barred...)
		out.Messages = append(out.Messages, m)
	}
	for _, e := range f.Enums {
		e.Items = append([]api.Item(nil), e.Items...)
		out.Enums = append(out.Enums, e)
	}
	return out
}

func sameFile(f, g api.File) bool { return reflect.DeepEqual(plain(f), plain(g)) }

// parses has s parsed, and the file must be that one.
func parses(t *testing.T, s string, want api.File) {
	t.Helper()
	f, w := syntax.Parse(s)
	if w != (api.Fault{}) || !sameFile(f, want) {
		t.Errorf("Parse(%q) = %+v, %+v; not %+v", s, f, w, want)
	}
}

// fails has text parsed without its one ^, which tells where the fault must be.
func fails(t *testing.T, text string, err api.Errno) {
	t.Helper()
	at := strings.IndexByte(text, '^')
	s := text[:at] + text[at+1:]
	f, w := syntax.Parse(s)
	if w != (api.Fault{Err: err, At: at}) || !sameFile(f, api.File{}) {
		t.Errorf("Parse(%q) = %+v, %+v; not %d at %d, without a file", s, f, w, err, at)
	}
}

func message(name string, l ...api.Field) api.File {
	return api.File{Messages: []api.Message{{Name: name, Fields: l}}}
}

func enum(name string, l ...api.Item) api.File {
	return api.File{Enums: []api.Enumeration{{Name: name, Items: l}}}
}

func TestB2NothingAtAll(t *testing.T) {
	for _, s := range []string{"", " ", "\n", "//", "// note", "//\n", " // a\n// b\n \n// c // d", "///", "// message"} {
		parses(t, s, api.File{})
	}
}

func TestB2Fields(t *testing.T) {
	parses(t, "message A { }", message("A"))
	parses(t, "message A{}", message("A"))
	for i, word := range []string{"int64", "sint64", "uint64", "bool", "", "fixed64", "fixed32", "string", "bytes"} {
		if word != "" {
			parses(t, "message A { "+word+" x = 1; }", message("A", api.Field{Name: "x", Number: 1, Kind: i + 1}))
		}
	}
	for _, word := range []string{"B", "A", "int", "int65", "int64x", "Int64", "fixed", "message", "enum", "Enum", "abcdefghijklmnop"} {
		parses(t, "message A { "+word+" x = 1; }", message("A", api.Field{Name: "x", Number: 1, Kind: api.Sub, Type: word}))
	}
	parses(t, "message A { repeated string y = 2; int64 x = 1; repeated B b = 0; }", message("A",
		api.Field{Name: "y", Number: 2, Kind: api.Text, Many: true},
		api.Field{Name: "x", Number: 1, Kind: api.Int},
		api.Field{Name: "b", Number: 0, Kind: api.Sub, Type: "B", Many: true}))
	parses(t, "message A { repeated repeated x = 1; }", message("A",
		api.Field{Name: "x", Number: 1, Kind: api.Sub, Type: "repeated", Many: true}))
	parses(t, "message A { bool x = 536870911; bool x = 10; }", message("A",
		api.Field{Name: "x", Number: 536870911, Kind: api.Bool},
		api.Field{Name: "x", Number: 10, Kind: api.Bool}))
}

func TestB2WordsAsNames(t *testing.T) {
	for _, name := range []string{"message", "enum", "reserved", "oneof", "repeated", "int64", "a_1", "abcdefghijklmnop"} {
		parses(t, "message "+name+" { bool "+name+" = 1; }", message(name, api.Field{Name: name, Number: 1, Kind: api.Bool}))
		parses(t, "enum "+name+" { "+name+" = 1; }", enum(name, api.Item{Name: name, Value: 1}))
	}
}

func TestB2Choices(t *testing.T) {
	parses(t, "message A { oneof { A y = 2; string z = 3; } }", message("A",
		api.Field{Name: "y", Number: 2, Kind: api.Sub, Type: "A", Choice: 1},
		api.Field{Name: "z", Number: 3, Kind: api.Text, Choice: 1}))
	parses(t, "message A { oneof { bool a = 1; } oneof { bool b = 2; } bool c = 3; oneof { } oneof { bool d = 4; } } message B { oneof { bool e = 5; } }",
		api.File{Messages: []api.Message{
			{Name: "A", Fields: []api.Field{
				{Name: "a", Number: 1, Kind: api.Bool, Choice: 1},
				{Name: "b", Number: 2, Kind: api.Bool, Choice: 2},
				{Name: "c", Number: 3, Kind: api.Bool},
				{Name: "d", Number: 4, Kind: api.Bool, Choice: 4},
			}},
			{Name: "B", Fields: []api.Field{{Name: "e", Number: 5, Kind: api.Bool, Choice: 1}}},
		}})
	for _, word := range []string{"repeated", "reserved", "oneof"} {
		parses(t, "message A { oneof { "+word+" x = 1; } }", message("A",
			api.Field{Name: "x", Number: 1, Kind: api.Sub, Type: word, Choice: 1}))
	}
}

func TestB2Reserved(t *testing.T) {
	parses(t, "message A { reserved 3; bool x = 1; reserved 1, 2,1 ,0; reserved 536870911; }", api.File{Messages: []api.Message{{
		Name:   "A",
		Fields: []api.Field{{Name: "x", Number: 1, Kind: api.Bool}},
		Barred: []int{3, 1, 2, 1, 0, 536870911},
	}}})
}

func TestB2Enums(t *testing.T) {
	parses(t, "enum E { }", enum("E"))
	parses(t, "enum E{a=0;b=1;c=-1;d=- 5;e=-0;f=536870912;}", enum("E",
		api.Item{Name: "a"}, api.Item{Name: "b", Value: 1}, api.Item{Name: "c", Value: -1},
		api.Item{Name: "d", Value: -5}, api.Item{Name: "e"}, api.Item{Name: "f", Value: 536870912}))
	parses(t, "enum E { a = 2147483647; b = -2147483647; c = -2147483648; }", enum("E",
		api.Item{Name: "a", Value: 2147483647}, api.Item{Name: "b", Value: -2147483647}, api.Item{Name: "c", Value: -2147483648}))
	parses(t, "enum E { } message A { } enum F { } message B { }", api.File{
		Messages: []api.Message{{Name: "A"}, {Name: "B"}},
		Enums:    []api.Enumeration{{Name: "E"}, {Name: "F"}},
	})
}

// pieces of a text with one of everything.
var pieces = strings.Fields("message A { reserved 1 , 20 ; repeated string y = 2 ; oneof { bool x = 3 ; B b = 4 ; } oneof { } } enum E { zero = 0 ; less = - 5 ; }")

func TestB2BlanksAndNotesAreNothing(t *testing.T) {
	want, w := syntax.Parse(strings.Join(pieces, " "))
	if w != (api.Fault{}) {
		t.Fatal(w)
	}
	for _, between := range []string{"\n", "  ", " \n ", "//\n", " // }\n", "// a\n\n// b // c\n ", "///\n"} {
		s := between + strings.Join(pieces, between) + between
		parses(t, s, want)
		parses(t, strings.TrimSuffix(s, "\n"), want)
	}
	for i := range pieces {
		ahead, behind := strings.Join(pieces[:i], " "), strings.Join(pieces[i:], " ")
		parses(t, ahead+"// note\n  //\n"+behind, want)
	}
}

func TestB3Form(t *testing.T) {
	for _, text := range []string{
		"^x", "^import x;", "^;", "^}", "^1", "^/ x", "^/", " // a\n ^/", "^messages A { }", "^Message A { }", "^messageA{}",
		"^\tmessage A { }", "^\rmessage A { }", "^\x00", "^é", "^abcdefghijklmnopq", "^01", "^reserved 1;", "^int64 x = 1;",
		"message^", "message ^", "message // A^", "message // A\n^", "message ^{ }", "message ^1 { }", "message ^_A { }", "message ^01 { }",
		"message A^", "message A ^}", "message A^-b { }", "message A ^B { }", "message A^\t{ }", "message A ^abcdefghijklmnopq { }",
		"message A {^", "message A { ^", "message A { ^; }", "message A { ^1", "message A { ^= }", "message A { } ^}", "message A { }^/",
		"message A { int64 ^}", "message A { int64 ^= 1; }", "message A { int64 ^1; }", "message A { int64^", "message A { int64x^=1; }",
		"message A { int64 x ^}", "message A { int64 x ^1; }", "message A { int64 x ^y = 1; }", "message A { int64 x^",
		"message A { int64 x = ^}", "message A { int64 x = ^y; }", "message A { int64 x = ^; }", "message A { int64 x = ^-1; }", "message A { int64 x =^",
		"message A { int64 x = 1 ^}", "message A { int64 x = 1^a; }", "message A { int64 x = 1 ^01; }", "message A { int64 x = 1^", "message A { int64 x = 1^, }",
		"message A { int64 x = 1^.5; }", "message A { int64 x = 0^x1; }", "message A { int64 x = 1^_000; }", "message A { int64 x = ^+1; }",
		"message A { repeated ^= 1; }", "message A { repeated x ^= 1; }", "message A { repeated ^}", "message A { repeated reserved ^1; }", "message A { repeated oneof ^{ } }",
		"message A { reserved ^; }", "message A { reserved 1 ^2; }", "message A { reserved 1, ^; }", "message A { reserved 1,^, 2; }", "message A { reserved ^x = 1; }",
		"message A { reserved ^-1; }", "message A { reserved 1 ^}", "message A { reserved^", "message A { reserved1^; }", "message A { reserved ^, 1; }",
		"message A { oneof ^x { } }", "message A { oneof ^x = 1; }", "message A { oneof {^", "message A { oneof { } ^", "message A { oneof { ^; } }",
		"message A { oneof { oneof ^{ } } }", "message A { oneof { reserved ^1; } }", "message A { oneof { repeated int64 ^x = 1; } }", "message A { oneof ^}",
		"message A { message B ^{ } }", "message A { enum E ^{ } }",
		"enum^", "enum ^{", "enum E ^;", "enum E {^", "enum E { ^= 1; }", "enum E { a ^}", "enum E { a ^1; }", "enum E { a = ^; }", "enum E { a = ^b; }",
		"enum E { a = -^; }", "enum E { a = - ^-1; }", "enum E { a = -^", "enum E { a = 1 ^}", "enum E { a = 1^", "enum E { int64 ^a = 1; }", "enum E { a = ^+1; }", "enum E { reserved ^1; }",
		"enum E { } ^E",
	} {
		fails(t, text, api.ErrForm)
	}
}

func TestB3Name(t *testing.T) {
	const long = "abcdefghijklmnopq"
	for _, text := range []string{
		"message ^" + long, "message ^" + long + " { }", "message // note\n ^" + long + "_1 { }", "message ^" + strings.Repeat("x", 2900),
		"message A { ^" + long + " x = 1; }", "message A { int64 ^" + long + " = 1; }", "message A { repeated ^" + long + " x = 1; }",
		"message A { oneof { ^" + long + " x = 1; } }", "message A { oneof { bool ^" + long + " = 01; } }", "message A { ^reservedreserved1; }",
		"enum ^" + long + " { }", "enum E { ^" + long + " = 1; }",
	} {
		fails(t, text, api.ErrName)
	}
}

func TestB3Range(t *testing.T) {
	for _, n := range []string{"00", "01", "000", "0536870911", "99999999999999999999", "9223372036854775808", strings.Repeat("9", 2900), strings.Repeat("0", 2900)} {
		for _, ahead := range []string{
			"message A { int64 x = ", "message A { repeated int64 x =", "message A { oneof { bool x = ", "message A { reserved ", "message A { reserved 1, // two\n",
			"enum E { a = ", "enum E { a = -", "enum E { a = - ",
		} {
			fails(t, ahead+"^"+n, api.ErrRange)
			fails(t, ahead+"^"+n+"; }", api.ErrRange)
		}
	}
	for _, text := range []string{
		"message A { int64 x = ^536870912; }", "message A { oneof { int64 x = ^536870912; } }", "message A { reserved ^536870912; }",
		"message A { reserved 1, ^536870912; }", "message A { reserved 536870911, ^2147483648; }",
		"enum E { a = ^2147483648; }", "enum E { a = -^2147483649; }", "enum E { a = - ^2147483649; }", "enum E { a = 0; b = ^4294967296; }",
	} {
		fails(t, text, api.ErrRange)
	}
}

func TestB3TheFirstFromTheLeft(t *testing.T) {
	fails(t, "message A { int64 x = ^01; abcdefghijklmnopq y 2", api.ErrRange)
	fails(t, "message A { ^abcdefghijklmnopq x = 01 }", api.ErrName)
	fails(t, "message A { int64 x = 1 ^} enum E { a = 01; abcdefghijklmnopq }", api.ErrForm)
}

// many answers n pieces, each with its own name.
func many(n int, piece string) string {
	var out string
	for i := range n {
		out += strings.ReplaceAll(piece, "?", fmt.Sprintf("f%d", i))
	}
	return out
}

func TestB3ManyFields(t *testing.T) {
	const field = "bool ? = 1; "
	full := many(api.MaxFields, field)
	for _, s := range []string{full, "oneof { " + full + "}", "oneof { " + many(8, field) + "} " + many(8, field), full + "reserved 1; oneof { } "} {
		f, w := syntax.Parse("message A { " + s + "} message B { " + s + "}")
		if w != (api.Fault{}) || len(f.Messages) != 2 || len(f.Messages[0].Fields) != api.MaxFields || len(f.Messages[1].Fields) != api.MaxFields {
			t.Errorf("fields %q: %+v", s, w)
		}
	}
	for _, text := range []string{
		full + "bool x = 1;^ }", full + "bool x = 1;^", full + "bool x = 1;^ ?", full + "bool x = 1;^?", full + "repeated bool x = 1 // note\n ;^ // note\n}",
		full + "bool x = 1;^ bool y = 01;", full + "oneof { bool x = 1; }^ }", full + "oneof { bool x = 1; bool y = 2; }^",
		"oneof { " + full + "bool x = 1; }^ }", "oneof { " + full + full + "}^ }", "oneof { " + full + "} oneof { } oneof { bool x = 1; }^ }",
	} {
		fails(t, "message A { "+text, api.ErrMany)
	}
	fails(t, "message A { oneof { "+full+"bool x = 1; bool ^= 2; } }", api.ErrForm)
	fails(t, "message A { oneof { "+full+"bool x = 1; bool y = ^02; } }", api.ErrRange)
	fails(t, "message A { oneof { "+full+"bool x = 1; ^", api.ErrForm)
	fails(t, "message A { "+full+"bool x = 1 ^}", api.ErrForm)
}

func TestB3ManyBarred(t *testing.T) {
	full := strings.Repeat("1, ", api.MaxFields-1) + "1"
	fields := many(api.MaxFields, "bool ? = 1; ")
	for _, s := range []string{"reserved " + full + "; ", fields + "reserved " + full + "; ", strings.Repeat("reserved 1; ", api.MaxFields)} {
		f, w := syntax.Parse("message A { " + s + "} message B { " + s + "}")
		if w != (api.Fault{}) || len(f.Messages) != 2 || len(f.Messages[1].Barred) != api.MaxFields {
			t.Errorf("%q: %+v", s, w)
		}
	}
	for _, text := range []string{
		"reserved " + full + ", 1;^ }", "reserved " + full + ", 1;^", "reserved " + full + "; reserved 1;^ }", "reserved " + full + ", 1, 1, 1 ;^ bool x = 01;",
		strings.Repeat("reserved 1; ", api.MaxFields) + "reserved 2;^?",
	} {
		fails(t, "message A { "+text, api.ErrMany)
	}
	fails(t, "message A { reserved "+full+", 1, ^; }", api.ErrForm)
	fails(t, "message A { reserved "+full+", 1, ^01; }", api.ErrRange)
}

func TestB3ManyItems(t *testing.T) {
	full := many(api.MaxItems, "? = 1; ")
	f, w := syntax.Parse("enum E { " + full + "} enum F { " + full + "}")
	if w != (api.Fault{}) || len(f.Enums) != 2 || len(f.Enums[1].Items) != api.MaxItems {
		t.Errorf("16 items: %+v", w)
	}
	for _, text := range []string{full + "x = 1;^ }", full + "x = -1 ;^", full + "x = 1;^ y = 01; }", full + "x = 1;^?"} {
		fails(t, "enum E { "+text, api.ErrMany)
	}
	fails(t, "enum E { "+full+"x = 1 ^}", api.ErrForm)
}

func TestB3ManyMessages(t *testing.T) {
	half := many(5, "message ? { } enum ? { } ")
	f, w := syntax.Parse(half)
	if w != (api.Fault{}) || len(f.Messages) != 5 || len(f.Enums) != 5 {
		t.Errorf("10 in all: %+v", w)
	}
	for _, text := range []string{
		half + "message A { }^", half + "enum E { }^ // note", half + "message A { bool x = 1; }^\nmessage", half + "enum E { }^}",
		many(10, "message ? { } ") + "message A { }^ ", many(10, "enum ? { } ") + "enum E { }^ x", many(10, "enum ? { }") + "message A{}^message",
	} {
		fails(t, text, api.ErrMany)
	}
	fails(t, half+"message A ^}", api.ErrForm)
	fails(t, half+"message A { bool x = ^01; }", api.ErrRange)
}

func TestB3Much(t *testing.T) {
	parses(t, strings.Repeat(" ", api.MaxFile), api.File{})
	parses(t, "message A { }"+strings.Repeat("\n", api.MaxFile-13), message("A"))
	fails(t, "^"+strings.Repeat(" ", api.MaxFile+1), api.ErrMuch)
	fails(t, "^"+strings.Repeat("?", api.MaxFile+1), api.ErrMuch)
	fails(t, "^message A { }"+strings.Repeat("\n", api.MaxFile-12), api.ErrMuch)
	fails(t, "^"+strings.Repeat("message A { } ", 1000), api.ErrMuch)
	fails(t, strings.Repeat(" ", api.MaxFile-1)+"^?", api.ErrForm)
}

// Cut short anywhere, a text is wrong at its end, or where a piece was cut, or is a file.
func TestB3CutShort(t *testing.T) {
	s := strings.Join(pieces, " ")
	for n := range len(s) {
		f, w := syntax.Parse(s[:n])
		switch {
		case w.Err == api.OK:
			if w.At != 0 || !strings.HasSuffix(strings.TrimRight(s[:n], " "), "}") && n > 0 {
				t.Errorf("Parse(%q) = %+v, %+v", s[:n], f, w)
			}
		case w.Err != api.ErrForm || w.At > n || !sameFile(f, api.File{}):
			t.Errorf("Parse(%q) = %+v, %+v", s[:n], f, w)
		case w.At < n && !strings.HasPrefix("message", s[w.At:n]) && !strings.HasPrefix("enum", s[w.At:n]):
			t.Errorf("Parse(%q) = %+v", s[:n], w)
		}
	}
}

func TestB3AnswersShareNothing(t *testing.T) {
	const s = "message A { reserved 1; bool x = 1; } message B { reserved 2; bool y = 2; } enum E { a = 1; } enum F { b = 2; }"
	f, _ := syntax.Parse(s)
	g, _ := syntax.Parse(s)
	want := plain(g)
	for i := range f.Messages {
		m := &f.Messages[i]
		m.Name = "changed"
		m.Fields = append(m.Fields[:0], make([]api.Field, cap(m.Fields))...)
		m.Barred = append(m.Barred[:0], make([]int, cap(m.Barred))...)
		if i == 0 && (f.Messages[1].Fields[0] != want.Messages[1].Fields[0] || f.Messages[1].Barred[0] != 2) {
			t.Errorf("the second message changes with the first: %+v", f.Messages[1])
		}
	}
	e := &f.Enums[0]
	e.Items = append(e.Items[:0], make([]api.Item, cap(e.Items))...)
	if f.Enums[1].Items[0] != want.Enums[1].Items[0] {
		t.Errorf("the second enum changes with the first: %+v", f.Enums[1])
	}
	if !sameFile(g, want) {
		t.Errorf("one answer changes with another: %+v", g)
	}
}
