package code

import "treadwheel/api"

// mostNumberBytes: as many as the longest number of a program takes.
const mostNumberBytes = 6

// reader goes from the first byte on, so that the first fault is the one that is told.
type reader struct {
	bytes []byte
	at    int
}

func (r *reader) next() (int, api.Errno) {
	if r.at >= len(r.bytes) {
		return 0, api.ErrShort
	}
	c := int(r.bytes[r.at])
	r.at++
	return c, api.OK
}

// readAll asks for the form alone: whether the program may be is asked behind all faults of its bytes.
func readAll(b []byte) (api.Program, api.Errno) {
	r := reader{bytes: b}
	if e := r.beginning(); e != api.OK {
		return api.Program{}, e
	}
	p, e := r.program()
	if e != api.OK {
		return api.Program{}, e
	}
	if r.at < len(b) {
		return api.Program{}, api.ErrForm
	}
	return p, api.OK
}

// beginning goes byte by byte: a wrong first byte is told even if none follows it.
func (r *reader) beginning() api.Errno {
	for _, want := range [2]int{'t', 'w'} {
		c, e := r.next()
		if e != api.OK {
			return e
		}
		if c != want {
			return api.ErrForm
		}
	}
	return api.OK
}

func (r *reader) program() (api.Program, api.Errno) {
	count, e := r.next()
	if e != api.OK {
		return api.Program{}, e
	}
	var kinds [][]api.Instr
	for range count {
		behavior, e := r.behavior()
		if e != api.OK {
			return api.Program{}, e
		}
		kinds = append(kinds, behavior)
	}
	return api.Program{Kinds: kinds}, api.OK
}

func (r *reader) behavior() ([]api.Instr, api.Errno) {
	count, e := r.next()
	if e != api.OK {
		return nil, e
	}
	var behavior []api.Instr
	for range count {
		in, e := r.instr()
		if e != api.OK {
			return nil, e
		}
		behavior = append(behavior, in)
	}
	return behavior, api.OK
}

func (r *reader) instr() (api.Instr, api.Errno) {
	kind, e := r.next()
	if e != api.OK {
		return api.Instr{}, e
	}
	if !isOperator(kind) {
		return api.Instr{}, api.ErrKind
	}
	in, op := api.Instr{Op: kind}, operators[kind]
	if op.hasA {
		if in.A, in.B, e = r.registers(); e != api.OK {
			return api.Instr{}, e
		}
	}
	if op.hasN {
		if in.N, e = r.number(); e != api.OK {
			return api.Instr{}, e
		}
	}
	return in, api.OK
}

func (r *reader) registers() (int, int, api.Errno) {
	c, e := r.next()
	if e != api.OK {
		return 0, 0, e
	}
	if c >= api.Regs*api.Regs {
		return 0, 0, api.ErrForm
	}
	return c % api.Regs, c / api.Regs, api.OK
}

func (r *reader) number() (int, api.Errno) {
	sum, worth := 0, 1
	for i := range mostNumberBytes {
		c, e := r.next()
		if e != api.OK {
			return 0, e
		}
		sum += c % 128 * worth
		worth *= 128
		if c >= 128 {
			continue
		}
		if c == 0 && i > 0 {
			return 0, api.ErrForm
		}
		return signed(sum), api.OK
	}
	return 0, api.ErrForm
}

// signed undoes what appendNumber did.
func signed(sum int) int {
	if sum%2 == 1 {
		return -(sum + 1) / 2
	}
	return sum / 2
}
