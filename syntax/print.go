package syntax

import (
	"strconv"
	"strings"

	"fieldpress/api"
)

// Print answers the text that tells f.
func Print(f api.File) string {
	var l lines
	for _, e := range f.Enums {
		l.enum(e)
	}
	for _, m := range f.Messages {
		l.message(m)
	}
	return l.String()
}

// lines is a text that is written line by line.
type lines struct{ strings.Builder }

func (l *lines) line(parts ...string) {
	for _, p := range parts {
		l.WriteString(p)
	}
	l.WriteByte('\n')
}

func (l *lines) enum(e api.Enumeration) {
	l.line("enum ", e.Name, " {")
	for _, i := range e.Items {
		l.line("  ", i.Name, " = ", strconv.Itoa(i.Value), ";")
	}
	l.line("}")
}

func (l *lines) message(m api.Message) {
	l.line("message ", m.Name, " {")
	if len(m.Barred) > 0 {
		l.line("  reserved ", numbers(m.Barred), ";")
	}
	choice := 0
	for _, f := range m.Fields {
		l.turn(choice, f.Choice)
		choice = f.Choice
		l.field(f)
	}
	l.turn(choice, 0)
	l.line("}")
}

// turn ends the choice of the field ahead and begins that of the next one, where they are not the same.
func (l *lines) turn(from, to int) {
	if from == to {
		return
	}
	if from != 0 {
		l.line("  }")
	}
	if to != 0 {
		l.line("  oneof {")
	}
}

func (l *lines) field(f api.Field) {
	ahead, many := "  ", ""
	if f.Choice != 0 {
		ahead = "    "
	}
	if f.Many {
		many = "repeated "
	}
	l.line(ahead, many, wordOf(f), " ", f.Name, " = ", strconv.Itoa(f.Number), ";")
}

// wordOf undoes typeOf.
func wordOf(f api.Field) string {
	if f.Kind >= api.Int && f.Kind <= api.Raw && f.Kind != api.Enum {
		return Words()[f.Kind-api.Int]
	}
	return f.Type
}

func numbers(l []int) string {
	var texts []string
	for _, n := range l {
		texts = append(texts, strconv.Itoa(n))
	}
	return strings.Join(texts, ", ")
}
