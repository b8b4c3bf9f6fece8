// Package code: programs, and their bytes.
package code

import "treadwheel/api"

// Check a program.
func Check(p api.Program) api.Errno {
	if len(p.Kinds) == 0 {
		return api.ErrNone
	}
	if len(p.Kinds) > api.MaxKinds {
		return api.ErrSize
	}
	for _, behavior := range p.Kinds {
		if e := checkBehavior(behavior, len(p.Kinds)); e != api.OK {
			return e
		}
	}
	return api.OK
}

// Encode a program.
func Encode(p api.Program) ([]byte, api.Errno) {
	if e := Check(p); e != api.OK {
		return nil, e
	}
	b := []byte{'t', 'w', byte(len(p.Kinds))}
	for _, behavior := range p.Kinds {
		b = append(b, byte(len(behavior)))
		for _, in := range behavior {
			b = appendInstr(b, in)
		}
	}
	return b, api.OK
}

// Decode bytes as a program.
func Decode(b []byte) (api.Program, api.Errno) {
	if len(b) > api.MaxBytes {
		return api.Program{}, api.ErrSize
	}
	p, e := readAll(b)
	if e == api.OK {
		e = Check(p)
	}
	if e != api.OK {
		return api.Program{}, e
	}
	return p, api.OK
}

// Copy of a program, in memory of its own.
func Copy(p api.Program) api.Program {
	kinds := make([][]api.Instr, len(p.Kinds))
	for i, behavior := range p.Kinds {
		kinds[i] = make([]api.Instr, len(behavior))
		copy(kinds[i], behavior)
	}
	return api.Program{Kinds: kinds}
}
