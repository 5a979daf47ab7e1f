package press_test

import (
	"math"
	"testing"

	"fieldpress/api"
	"fieldpress/press"
)

// isWrong has that be wrong with l, there; Run must tell it ahead of all else.
func isWrong(t *testing.T, l []api.Program, err api.Errno, at int) {
	t.Helper()
	before := steady(l)
	if w := press.Wrong(l); w != (api.Fault{Err: err, At: at}) {
		t.Errorf("Wrong(%+v) = %+v, not %d at %d", l, w, err, at)
	}
	for _, p := range []int{-1, 0, len(l), at} {
		b, got := press.Run(l, p, withUnknown(of(bits(1, 5)), api.Record{How: 3}))
		if len(b) != 0 || got != err {
			t.Errorf("Run(%+v, %d) = %x, %d, not %d", l, p, b, got, err)
		}
	}
	if !samePrograms(l, before) {
		t.Errorf("the programs changed: %+v were %+v", l, before)
	}
}

// wrongSteps has that be wrong with a program of these steps, and one that stands behind others.
func wrongSteps(t *testing.T, err api.Errno, p ...api.Step) {
	t.Helper()
	isWrong(t, []api.Program{p}, err, 0)
	isWrong(t, []api.Program{programs[0], {}, p, {step(0, 0, 0, 0, 0)}}, err, 2)
}

func isRight(t *testing.T, l ...api.Program) {
	t.Helper()
	before := steady(l)
	if w := press.Wrong(l); w != (api.Fault{}) {
		t.Errorf("Wrong(%+v) = %+v; nothing is", l, w)
	}
	if !samePrograms(l, before) {
		t.Errorf("the programs changed: %+v were %+v", l, before)
	}
}

// rightStep is one of that field's kind; Next leads to program 0.
func rightStep(kind, field int) api.Step {
	how := map[int]int{api.Fixed: api.Eight, api.Small: api.Four, api.Text: api.Sized, api.Raw: api.Sized, api.Sub: api.Sized}[field]
	next := -1
	if kind == api.StepSub {
		next = 0
	}
	return step(kind, 1, how, field, next)
}

func TestF1WrongOfRightOnes(t *testing.T) {
	isRight(t)
	isRight(t, []api.Program{}...)
	isRight(t, nil, api.Program{})
	isRight(t, programs...)
	for field := api.Int; field <= api.Small; field++ {
		isRight(t, api.Program{rightStep(api.StepBits, field)})
		isRight(t, api.Program{rightStep(api.StepPack, field)})
	}
	isRight(t, api.Program{rightStep(api.StepBlob, api.Text)})
	isRight(t, api.Program{rightStep(api.StepBlob, api.Raw)})
	isRight(t, api.Program{rightStep(api.StepSub, api.Sub)})
}

func TestF1WrongHowMany(t *testing.T) {
	isRight(t, make([]api.Program, api.MaxMessages)...)
	isWrong(t, make([]api.Program, api.MaxMessages+1), api.ErrMany, 0)
	// Ahead of what is wrong with one of them.
	l := make([]api.Program, api.MaxMessages+1)
	l[0] = api.Program{{}}
	isWrong(t, l, api.ErrMany, 0)
	isWrong(t, l[:api.MaxMessages], api.ErrKind, 0)

	var p api.Program
	for i := range api.MaxFields + 1 {
		p = append(p, step(api.StepBits, i+1, api.Varint, api.Int, -1))
	}
	isRight(t, p[:api.MaxFields], p[1:])
	wrongSteps(t, api.ErrMany, p...)
	// Ahead of what is wrong with its steps, behind what is wrong with a program ahead.
	p[0].Kind = 0
	wrongSteps(t, api.ErrMany, p...)
	isWrong(t, []api.Program{{}, p[:1], p}, api.ErrKind, 1)
	// Spare room is not looked at.
	isRight(t, p[1:api.MaxFields], p[:0])
	isRight(t, l[1:1]...)
}

func TestF1WrongKinds(t *testing.T) {
	for _, kind := range []int{math.MinInt, -1, 0, 5, 6, math.MaxInt} {
		wrongSteps(t, api.ErrKind, step(kind, 1, api.Varint, api.Int, -1))
		wrongSteps(t, api.ErrKind, step(kind, 1, api.Sized, api.Sub, 0))
	}
	for _, field := range []int{math.MinInt, -1, 0, 11, 12, math.MaxInt} {
		wrongSteps(t, api.ErrKind, step(api.StepBits, 1, api.Varint, field, -1))
		wrongSteps(t, api.ErrKind, step(api.StepPack, 1, api.Varint, field, -1))
		wrongSteps(t, api.ErrKind, step(api.StepBlob, 1, api.Sized, field, -1))
		wrongSteps(t, api.ErrKind, step(api.StepSub, 1, api.Sized, field, 0))
	}
}

func TestF1WrongNumbers(t *testing.T) {
	numbered := func(l ...int) api.Program {
		var p api.Program
		for _, n := range l {
			p = append(p, step(api.StepBits, n, api.Varint, api.Int, -1))
		}
		return p
	}
	isRight(t, numbered(1), numbered(api.MaxNumber-1), numbered(1, 2, api.MaxNumber-1), numbered(18999, 19000, 19500, 19999), numbered(1))
	for _, n := range []int{0, -1, math.MinInt, api.MaxNumber, api.MaxNumber + 1, math.MaxInt} {
		wrongSteps(t, api.ErrRange, numbered(n)...)
		wrongSteps(t, api.ErrRange, numbered(1, n)...)
	}
	wrongSteps(t, api.ErrRange, numbered(1, 1)...)
	wrongSteps(t, api.ErrRange, numbered(2, 1)...)
	wrongSteps(t, api.ErrRange, numbered(1, 3, 2)...)
	wrongSteps(t, api.ErrRange, numbered(1, 2, 1)...)
	wrongSteps(t, api.ErrRange, numbered(5, 6, 7, 7)...)
}

func TestF1WrongFit(t *testing.T) {
	hows := []int{math.MinInt, -1, api.Varint, api.Eight, api.Sized, 3, 4, api.Four, 6, 7, 8, math.MaxInt}
	for field := api.Int; field <= api.Sub; field++ {
		for kind := api.StepBits; kind <= api.StepSub; kind++ {
			right := rightStep(kind, field)
			for _, how := range hows {
				s := right
				s.How = how
				if how != right.How {
					wrongSteps(t, api.ErrFit, s)
				}
			}
			goes := (kind == api.StepBits || kind == api.StepPack) && field <= api.Small ||
				kind == api.StepBlob && (field == api.Text || field == api.Raw) || kind == api.StepSub && field == api.Sub
			if goes {
				isRight(t, api.Program{right})
			} else {
				wrongSteps(t, api.ErrFit, right)
			}
		}
	}
}

func TestF1WrongNext(t *testing.T) {
	sub := func(next int) api.Program { return api.Program{step(api.StepSub, 1, api.Sized, api.Sub, next)} }
	isRight(t, sub(0))
	isRight(t, sub(2), sub(1), sub(0))
	for _, next := range []int{-1, -2, 1, 2, math.MinInt, math.MaxInt} {
		isWrong(t, []api.Program{sub(next)}, api.ErrNone, 0)
	}
	for _, next := range []int{-1, 3, 4} {
		isWrong(t, []api.Program{sub(2), nil, sub(next)}, api.ErrNone, 2)
		isWrong(t, []api.Program{sub(2), sub(next), {{}}}, api.ErrNone, 1)
	}
	for _, s := range []api.Step{rightStep(api.StepBits, api.Int), rightStep(api.StepPack, api.Int), rightStep(api.StepBlob, api.Raw)} {
		for _, next := range []int{0, 1, 2, -2, math.MinInt, math.MaxInt} {
			s.Next = next
			wrongSteps(t, api.ErrNone, s)
		}
	}
	// A program in spare room is none.
	isWrong(t, []api.Program{sub(1), nil}[:1], api.ErrNone, 0)
}

// A step's errors are told in the chapter's order, whatever else is wrong with it.
func TestF1WrongStepsOrder(t *testing.T) {
	breaks := []struct {
		err  api.Errno
		make func(*api.Step)
	}{
		{api.ErrKind, func(s *api.Step) { s.Kind = 9 }},
		{api.ErrKind, func(s *api.Step) { s.Field = 0 }},
		{api.ErrRange, func(s *api.Step) { s.Number = 0 }},
		{api.ErrRange, func(s *api.Step) { s.Number = 7 }}, // that of the one ahead
		{api.ErrFit, func(s *api.Step) { s.How = 5 }},
		{api.ErrNone, func(s *api.Step) { s.Next = 9 }},
	}
	ahead := step(api.StepBits, 7, api.Varint, api.Int, -1)
	for _, right := range []api.Step{step(api.StepBits, 8, api.Varint, api.Int, -1), step(api.StepBlob, 8, api.Sized, api.Raw, -1), step(api.StepSub, 8, api.Sized, api.Sub, 0)} {
		for set := 1; set < 1<<len(breaks); set++ {
			s, want := right, api.OK
			for i, b := range breaks {
				if set>>i&1 == 0 {
					continue
				}
				b.make(&s)
				if want == api.OK {
					want = b.err
				}
			}
			wrongSteps(t, want, ahead, s)
			// A step ahead is told first.
			wrongSteps(t, api.ErrNone, step(api.StepBits, 6, api.Varint, api.Int, 3), ahead, s)
		}
	}
}
