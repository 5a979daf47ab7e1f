package syntax_test

import (
	"math"
	"math/rand"
	"strings"
	"testing"

	"fieldpress/api"
	"fieldpress/syntax"
)

func prints(t *testing.T, f api.File, want ...string) {
	t.Helper()
	text := strings.Join(append(want, ""), "\n")
	if got := syntax.Print(f); got != text {
		t.Errorf("Print(%+v) =\n%snot\n%s", f, got, text)
	}
}

func TestB4Enums(t *testing.T) {
	prints(t, api.File{})
	prints(t, enum("E"), "enum E {", "}")
	prints(t, enum("E", api.Item{Name: "zero"}, api.Item{Name: "less", Value: -5}, api.Item{Name: "most", Value: math.MaxInt}, api.Item{Name: "least", Value: math.MinInt}),
		"enum E {", "  zero = 0;", "  less = -5;", "  most = 9223372036854775807;", "  least = -9223372036854775808;", "}")
}

func TestB4EnumsStandAheadOfMessages(t *testing.T) {
	prints(t, api.File{
		Messages: []api.Message{{Name: "B"}, {Name: "A"}},
		Enums:    []api.Enumeration{{Name: "F"}, {Name: "E", Items: []api.Item{{Name: "x", Value: 1}}}},
	}, "enum F {", "}", "enum E {", "  x = 1;", "}", "message B {", "}", "message A {", "}")
}

func TestB4Words(t *testing.T) {
	want := []string{"message A {"}
	var l []api.Field
	for kind, word := range []string{"T", "int64", "sint64", "uint64", "bool", "T", "fixed64", "fixed32", "string", "bytes", "T", "T"} {
		l = append(l, api.Field{Name: "x", Number: 7, Kind: kind, Type: "T"})
		want = append(want, "  "+word+" x = 7;")
	}
	for _, kind := range []int{-1, 99, math.MinInt, math.MaxInt} {
		l = append(l, api.Field{Name: "y", Number: -7, Kind: kind, Type: "Q", Many: true})
		want = append(want, "  repeated Q y = -7;")
	}
	prints(t, message("A", l...), append(want, "}")...)
}

func TestB4Reserved(t *testing.T) {
	x := []api.Field{{Name: "x", Number: 1, Kind: api.Int}}
	prints(t, api.File{Messages: []api.Message{{Name: "A", Fields: x, Barred: []int{4}}}},
		"message A {", "  reserved 4;", "  int64 x = 1;", "}")
	prints(t, api.File{Messages: []api.Message{{Name: "A", Barred: []int{3, 1, -2}}, {Name: "B", Barred: []int{}, Fields: x}}},
		"message A {", "  reserved 3, 1, -2;", "}", "message B {", "  int64 x = 1;", "}")
}

func TestB4Choices(t *testing.T) {
	var l []api.Field
	for _, choice := range []int{1, 1, 2, 0, 0, 2, 1, 0, 5} {
		l = append(l, api.Field{Name: "x", Number: 1, Kind: api.Int, Choice: choice})
	}
	l[5].Many = true
	const one, plainOne = "    int64 x = 1;", "  int64 x = 1;"
	prints(t, message("A", l...), "message A {",
		"  oneof {", one, one, "  }", "  oneof {", one, "  }", plainOne, plainOne,
		"  oneof {", "    repeated int64 x = 1;", "  }", "  oneof {", one, "  }", plainOne, "  oneof {", one, "  }", "}")
	two := message("A", l[:2]...)
	two.Messages = append(two.Messages, api.Message{Name: "B", Fields: l[:1]})
	prints(t, two, "message A {", "  oneof {", one, one, "  }", "}", "message B {", "  oneof {", one, "  }", "}")
}

func TestB4AnyName(t *testing.T) {
	prints(t, message("", api.Field{Number: 1, Kind: api.Sub}), "message  {", "    = 1;", "}")
	prints(t, enum("a b\n", api.Item{Name: "é"}), "enum a b\n {", "  é = 0;", "}")
}

func TestB4OnlyReads(t *testing.T) {
	f := api.File{Messages: []api.Message{{Name: "A", Fields: make([]api.Field, 1, 9), Barred: make([]int, 1, 9)}}}
	want := plain(f)
	syntax.Print(f)
	if !sameFile(f, want) || f.Messages[0].Barred[:9][1] != 0 || f.Messages[0].Fields[:9][1] != (api.Field{}) {
		t.Errorf("Print changes what it is handed: %+v", f)
	}
}

// anyFile answers a file as it may be written, without choices that have no field; r is seeded, so that it is always the same one.
func anyFile(r *rand.Rand) api.File {
	names := []string{"a", "B", "message", "repeated", "oneof", "reserved", "x_1", "abcdefghijklmnop"}
	name := func() string { return names[r.Intn(len(names))] }
	var f api.File
	for range r.Intn(4) {
		e := api.Enumeration{Name: name()}
		for range r.Intn(4) {
			e.Items = append(e.Items, api.Item{Name: name(), Value: int(int32(r.Uint32()))})
		}
		f.Enums = append(f.Enums, e)
	}
	for range r.Intn(4) {
		m, choices := api.Message{Name: name()}, 0
		for range r.Intn(4) {
			m.Barred = append(m.Barred, r.Intn(api.MaxNumber))
		}
		for range r.Intn(8) {
			x := api.Field{Name: name(), Number: r.Intn(api.MaxNumber), Kind: 1 + r.Intn(api.Sub), Many: r.Intn(2) == 0}
			if x.Kind == api.Enum || x.Kind == api.Sub {
				x.Kind, x.Type = api.Sub, "T"
			}
			switch r.Intn(3) {
			case 0:
				choices++
				x.Choice, x.Many = choices, false
			case 1:
				x.Choice = choices
				if n := len(m.Fields); n == 0 || m.Fields[n-1].Choice != choices {
					x.Choice = 0
				}
				x.Many = x.Many && x.Choice == 0
			}
			m.Fields = append(m.Fields, x)
		}
		f.Messages = append(f.Messages, m)
	}
	return f
}

func TestWhatIsPrintedIsParsed(t *testing.T) {
	r := rand.New(rand.NewSource(2))
	for range 2000 {
		f := anyFile(r)
		parses(t, syntax.Print(f), f)
	}
}

func FuzzB3(f *testing.F) {
	for n := range pieces {
		f.Add(strings.Join(pieces[:n+1], " "))
	}
	f.Fuzz(func(t *testing.T, s string) {
		g, w := syntax.Parse(s)
		if w.Err != api.OK {
			if w.At < 0 || w.At > len(s) || !sameFile(g, api.File{}) {
				t.Fatalf("Parse(%q) = %+v, %+v", s, g, w)
			}
			return
		}
		text := syntax.Print(g)
		if len(text) > api.MaxFile {
			return
		}
		again, w := syntax.Parse(text)
		if w != (api.Fault{}) || syntax.Print(again) != text {
			t.Errorf("Parse(%q) = %+v, which is printed as %q, and parsed as %+v, %+v", s, g, text, again, w)
		}
	})
}
