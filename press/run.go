package press

import (
	"fieldpress/api"
	"fieldpress/body"
	"fieldpress/codec"
	"fieldpress/wire"
)

// Run answers the bytes that program p of l makes of x, or what is wrong first; x may be any body, a wrong one too.
func Run(l []api.Program, p int, x api.Body) ([]byte, api.Errno) {
	if w := Wrong(l); w.Err != api.OK {
		return nil, w.Err
	}
	if p < 0 || p >= len(l) {
		return nil, api.ErrNone
	}
	out, err := run(l, p, x, 1)
	if err != api.OK {
		return nil, err
	}
	// Only here, not in each Sub: any other error, wherever it stands, is told ahead, and with too much in a Sub all is too much.
	if len(out) > api.MaxBytes {
		return nil, api.ErrMuch
	}
	return out, api.OK
}

// A runner answers the bytes that program p makes of x; of too many of them some, that are too many still.
type runner func(p int, x api.Body) ([]byte, api.Errno)

// run answers what program p of l, which must be right, makes of x, which is that deep.
func run(l []api.Program, p int, x api.Body, depth int) ([]byte, api.Errno) {
	if depth > api.MaxDeep {
		return nil, api.ErrDeep
	}
	deeper := func(next int, sub api.Body) ([]byte, api.Errno) { return run(l, next, sub, depth+1) }
	out, err := values(l[p], x, deeper)
	if err != api.OK {
		return nil, err
	}
	rest, err := unknown(x.Unknown)
	if err != api.OK {
		return nil, err
	}
	return enough(append(out, rest...)), api.OK
}

// enough answers b, or as much of it as tells that it is too much: the rest need not be copied on from Sub to Sub.
func enough(b []byte) []byte { return b[:min(len(b), api.MaxBytes+1)] }

// values answers what the steps make of x's values.
func values(p api.Program, x api.Body, deeper runner) ([]byte, api.Errno) {
	var out []byte
	for _, s := range p {
		at := body.At(x, s.Number)
		if at < 0 {
			continue
		}
		b, err := written(s, x.Values[at], deeper)
		if err != api.OK {
			return nil, err
		}
		out = append(out, b...)
	}
	return out, api.OK
}

// written answers what one step makes of its value.
func written(s api.Step, v api.Value, deeper runner) ([]byte, api.Errno) {
	switch s.Kind {
	case api.StepBits:
		return single(s, v.Bits), api.OK
	case api.StepPack:
		return sized(s.Number, wire.Packed(s.How, codec.Bits(s.Field, v.Bits))), api.OK
	case api.StepBlob:
		return sized(s.Number, v.Bytes...), api.OK
	}
	return nested(s, v.Subs, deeper)
}

// single answers each number with a tag of its own.
func single(s api.Step, l []uint64) []byte {
	var out []byte
	for _, bits := range codec.Bits(s.Field, l) {
		out = wire.Tag(out, s.Number, s.How)
		// Packed, not Add: the bits of a wrong body may be too many for a right record.
		out = append(out, wire.Packed(s.How, []uint64{bits})...)
	}
	return out
}

// sized answers each with its tag, and how many bytes it has.
func sized(number int, all ...[]byte) []byte {
	var out []byte
	for _, b := range all {
		out = wire.Tag(out, number, api.Sized)
		out = wire.Put(out, uint64(len(b)))
		out = append(out, b...)
	}
	return out
}

// nested answers what the next program makes of each.
func nested(s api.Step, l []api.Body, deeper runner) ([]byte, api.Errno) {
	var out []byte
	for _, sub := range l {
		b, err := deeper(s.Next, sub)
		if err != api.OK {
			return nil, err
		}
		out = append(out, sized(s.Number, b)...)
	}
	return out, api.OK
}

// unknown answers the bytes of these records. Not by wire.Bytes, which tells that they are too many ahead of what is wrong with later ones.
func unknown(l []api.Record) ([]byte, api.Errno) {
	var out []byte
	for _, r := range l {
		if err := wire.Wrong(r); err != api.OK {
			return nil, err
		}
		out = wire.Add(out, r)
	}
	return out, api.OK
}
