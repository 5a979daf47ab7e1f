package syntax

import (
	"strconv"
	"strings"

	"fieldpress/api"
)

// A scanner goes over a text from the left. What is met is looked at behind blanks and notes;
// at moves over them, and behind what is met only once that is as it must be. So at always is
// where a fault is: at the beginning of what is wrong, or right behind what is one too many.
type scanner struct {
	text string
	at   int
}

// throw leaves everything up to the edge, in parse.
func (s *scanner) throw(err api.Errno) {
	panic(api.Fault{Err: err, At: s.at})
}

// skip goes over blanks, line feeds and notes, and answers what is behind them.
func (s *scanner) skip() string {
	for s.at < len(s.text) {
		rest := s.text[s.at:]
		switch {
		case rest[0] == ' ' || rest[0] == '\n':
			s.at++
		case strings.HasPrefix(rest, "//"):
			s.at += lineLength(rest)
		default:
			return rest
		}
	}
	return ""
}

// lineLength answers how many bytes s has up to its first line feed, or its end.
func lineLength(s string) int {
	if n := strings.IndexByte(s, '\n'); n >= 0 {
		return n
	}
	return len(s)
}

// end tells whether nothing more is met.
func (s *scanner) end() bool { return s.skip() == "" }

// mark takes c, if that is what is met.
func (s *scanner) mark(c byte) bool {
	rest := s.skip()
	if rest == "" || rest[0] != c {
		return false
	}
	s.at++
	return true
}

// must takes c.
func (s *scanner) must(c byte) {
	if !s.mark(c) {
		s.throw(api.ErrForm)
	}
}

// keyword takes the whole word, if that is what is met.
func (s *scanner) keyword(word string) bool {
	rest := s.skip()
	if rest[:wordLength(rest)] != word {
		return false
	}
	s.at += len(word)
	return true
}

// name takes a word, whichever it is.
func (s *scanner) name() string {
	rest := s.skip()
	n := wordLength(rest)
	if n == 0 {
		s.throw(api.ErrForm)
	}
	if n > api.MaxName {
		s.throw(api.ErrName)
	}
	s.at += n
	// A copy, so that a name does not keep the whole text.
	return strings.Clone(rest[:n])
}

// number takes digits that are at most that number.
func (s *scanner) number(most int) int {
	rest := s.skip()
	digits := rest[:digitsLength(rest)]
	if digits == "" {
		s.throw(api.ErrForm)
	}
	needless := len(digits) > 1 && digits[0] == '0'
	n, err := strconv.Atoi(digits) // of digits alone, it fails only if they are too many for an int
	if needless || err != nil || n > most {
		s.throw(api.ErrRange)
	}
	s.at += len(digits)
	return n
}
