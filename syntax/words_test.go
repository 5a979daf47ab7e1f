package syntax_test

import (
	"slices"
	"strings"
	"testing"

	"fieldpress/api"
	"fieldpress/syntax"
)

func TestB1Words(t *testing.T) {
	want := []string{"int64", "sint64", "uint64", "bool", "", "fixed64", "fixed32", "string", "bytes"}
	got := syntax.Words()
	if !slices.Equal(got, want) {
		t.Fatalf("Words() = %q", got)
	}
	got[0] = "changed"
	if again := syntax.Words(); !slices.Equal(again, want) {
		t.Errorf("once the first answer is changed, Words() = %q", again)
	}
}

func TestB1Named(t *testing.T) {
	for _, s := range []string{
		"a", "z", "A", "Z", "a0", "a9", "a_", "aZ_9", "message", "int64",
		strings.Repeat("a", api.MaxName), "a" + strings.Repeat("_", api.MaxName-1),
	} {
		if !syntax.Named(s) {
			t.Errorf("Named(%q) = false", s)
		}
	}
	for _, s := range []string{
		"", "_", "_a", "0", "9a", " a", "a ", "a b", "a-b", "a.b", "a\n", "a\x00", "\xff",
		"é", "aé", "a/", "a:", "a@", "a[", "a`", "a{", "@", "[", "`", "{",
		strings.Repeat("a", api.MaxName+1), strings.Repeat("a", 1<<16),
	} {
		if syntax.Named(s) {
			t.Errorf("Named(%q) = true", s)
		}
	}
}
