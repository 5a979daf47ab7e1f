package syntax

import "fieldpress/api"

// What numbers may be, at most.
const (
	mostNumber = api.MaxNumber - 1 // of fields, and of what is reserved
	mostValue  = 1<<31 - 1         // of items
	mostBelow  = 1 << 31           // of items, behind a minus
)

// Parse answers the file that s tells, or what is wrong first in it, from the left.
func Parse(s string) (f api.File, w api.Fault) {
	if len(s) > api.MaxFile {
		return api.File{}, api.Fault{Err: api.ErrMuch}
	}
	return parse(s)
}

// parse is the edge at which what a parser throws is caught.
func parse(s string) (f api.File, w api.Fault) {
	defer func() {
		if thrown := recover(); thrown != nil {
			w = thrown.(api.Fault)
		}
	}()
	p := parser{scanner: scanner{text: s}}
	p.all()
	return p.file, api.Fault{}
}

// A parser's methods take what they are named for, or throw.
type parser struct {
	scanner
	file api.File
}

func (p *parser) all() {
	for !p.end() {
		switch {
		case p.keyword("message"):
			p.file.Messages = append(p.file.Messages, p.message())
		case p.keyword("enum"):
			p.file.Enums = append(p.file.Enums, p.enum())
		default:
			p.throw(api.ErrForm)
		}
		if len(p.file.Messages)+len(p.file.Enums) > api.MaxMessages {
			p.throw(api.ErrMany)
		}
	}
}

func (p *parser) message() api.Message {
	m := api.Message{Name: p.name()}
	p.must('{')
	for choices := 0; !p.mark('}'); {
		switch {
		case p.keyword("reserved"):
			m.Barred = append(m.Barred, p.reserved()...)
		case p.keyword("oneof"):
			choices++
			m.Fields = append(m.Fields, p.choice(choices)...)
		default:
			many := p.keyword("repeated")
			m.Fields = append(m.Fields, p.field(many, 0))
		}
		// Not ahead of the part's end: a choice may have something else wrong behind its 17th field.
		if len(m.Fields) > api.MaxFields || len(m.Barred) > api.MaxFields {
			p.throw(api.ErrMany)
		}
	}
	return m
}

func (p *parser) reserved() []int {
	l := []int{p.number(mostNumber)}
	for p.mark(',') {
		l = append(l, p.number(mostNumber))
	}
	p.must(';')
	return l
}

func (p *parser) choice(choice int) []api.Field {
	var l []api.Field
	p.must('{')
	for !p.mark('}') {
		// No field is repeated here, so that `repeated` is a type's word like any other.
		l = append(l, p.field(false, choice))
	}
	return l
}

func (p *parser) field(many bool, choice int) api.Field {
	f := api.Field{Many: many, Choice: choice}
	f.Kind, f.Type = typeOf(p.name())
	f.Name = p.name()
	p.must('=')
	f.Number = p.number(mostNumber)
	p.must(';')
	return f
}

// typeOf answers the kind that a type's word tells, and the word itself, if it is one of the file's own.
func typeOf(word string) (kind int, name string) {
	for i, w := range Words() {
		if w == word {
			return api.Int + i, ""
		}
	}
	return api.Sub, word
}

func (p *parser) enum() api.Enumeration {
	e := api.Enumeration{Name: p.name()}
	p.must('{')
	for !p.mark('}') {
		e.Items = append(e.Items, p.item())
		if len(e.Items) > api.MaxItems {
			p.throw(api.ErrMany)
		}
	}
	return e
}

func (p *parser) item() api.Item {
	i := api.Item{Name: p.name()}
	p.must('=')
	if p.mark('-') {
		i.Value = -p.number(mostBelow)
	} else {
		i.Value = p.number(mostValue)
	}
	p.must(';')
	return i
}
