package press

import (
	"fieldpress/api"
	"fieldpress/codec"
)

// Wrong tells what is wrong with l first, and with which program.
func Wrong(l []api.Program) api.Fault {
	if len(l) > api.MaxMessages {
		return api.Fault{Err: api.ErrMany}
	}
	for i, p := range l {
		if err := wrongProgram(p, len(l)); err != api.OK {
			return api.Fault{Err: err, At: i}
		}
	}
	return api.Fault{}
}

// wrongProgram looks at a program of that many.
func wrongProgram(p api.Program, programs int) api.Errno {
	if len(p) > api.MaxFields {
		return api.ErrMany
	}
	ahead := 0 // less than any step's
	for _, s := range p {
		if err := wrongStep(s, ahead, programs); err != api.OK {
			return err
		}
		ahead = s.Number
	}
	return api.OK
}

// wrongStep looks at a step behind one of the number ahead, in a program of that many.
func wrongStep(s api.Step, ahead, programs int) api.Errno {
	switch {
	case s.Kind < api.StepBits || s.Kind > api.StepSub:
		return api.ErrKind
	case s.Field < api.Int || s.Field > api.Sub:
		return api.ErrKind
	case s.Number < 1 || s.Number >= api.MaxNumber || s.Number <= ahead:
		return api.ErrRange
	case misfits(s):
		return api.ErrFit
	case leadsNowhere(s, programs):
		return api.ErrNone
	}
	return api.OK
}

// misfits tells whether a step's kind, its field's, and how that goes on don't go together.
func misfits(s api.Step) bool {
	writesSized := s.Kind == api.StepBlob || s.Kind == api.StepSub
	switch {
	case s.How != codec.How(s.Field):
		return true
	case writesSized != (s.How == api.Sized):
		return true
	}
	return (s.Kind == api.StepSub) != (s.Field == api.Sub)
}

// leadsNowhere tells whether a step has no program where it needs one, or one where it needs none.
func leadsNowhere(s api.Step, programs int) bool {
	if s.Kind == api.StepSub {
		return s.Next < 0 || s.Next >= programs
	}
	return s.Next != noProgram
}
