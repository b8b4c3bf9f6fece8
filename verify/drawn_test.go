package verify_test

import (
	"math"
	"strings"
	"testing"

	"treadwheel/api"
	"treadwheel/code"
	"treadwheel/verify"
)

// dice: numbers that look drawn, the same each time.
type dice uint64

// below: from 0 to below most.
func (d *dice) below(most int) int {
	*d = *d*6364136223846793005 + 1442695040888963407
	return int(uint64(*d>>20) % uint64(most))
}

// instr that may be at that place, with one of so many registers.
func (d *dice) instr(place, length, kinds, regs int) api.Instr {
	in := api.Instr{Op: d.below(20), A: d.below(regs), B: d.below(regs)}
	if in.Op == api.Done || in.Op == api.Stop || in.Op == api.Jmp {
		in.A = 0
		if d.below(3) > 0 {
			in.Op = api.Jmp
		}
	}
	if in.Op == api.Done || in.Op == api.Stop || in.Op == api.Jmp || !hasB(in.Op) {
		in.B = 0
	}
	switch in.Op {
	case api.Jz, api.Jmp:
		in.N = d.below(length) - place
	case api.New:
		in.N = 1 + d.below(4)
	case api.GetInt, api.PutInt, api.GetRef, api.PutRef:
		in.N = d.below(4)
	case api.Spawn:
		in.N = d.below(kinds)
	}
	return in
}

// program that may be; most of its behaviors have a way back.
func (d *dice) program() api.Program {
	kinds := make([][]api.Instr, 1+d.below(3))
	for k := range kinds {
		length := 2 + d.below(20)>>d.below(3)
		regs := 2 + d.below(7)
		for place := range length - 1 {
			kinds[k] = append(kinds[k], d.instr(place, length, len(kinds), regs))
		}
		kinds[k] = append(kinds[k], []api.Instr{done, stop, {Op: api.Jmp, N: -d.below(length)}}[d.below(3)])
	}
	return api.Program{Kinds: kinds}
}

// What is known of registers, once more, and otherwise: as a text of a letter a register (? nothing, n a number, s, u objects), "" where nobody comes to.
type letters string

func (s letters) with(r int, l string) letters { return s[:r] + letters(l) + s[r+1:] }

func (s letters) list() []int {
	var out []int
	for _, l := range s {
		out = append(out, strings.IndexRune("?nsu", l))
	}
	return out
}

func joined(old, way letters) letters {
	if old == "" {
		return way
	}
	for r := range way {
		switch both := string(old[r]) + string(way[r]); both {
		case "nn", "ss", "uu":
		case "su", "us":
			old = old.with(r, "s")
		default:
			old = old.with(r, "?")
		}
	}
	return old
}

// after an instruction.
func (s letters) after(in api.Instr) letters {
	b := string(s[in.B])
	switch in.Op {
	case api.New:
		return s.with(in.A, "u")
	case api.Drop, api.Send:
		return s.with(in.A, "?")
	case api.GetRef:
		return s.with(in.A, "s").with(in.B, "s")
	case api.PutRef:
		if in.A == in.B || b == "s" {
			return s.with(in.A, "s")
		}
		return s.with(in.B, "?")
	case api.Move:
		if b == "u" {
			return s.with(in.B, "?").with(in.A, "u")
		}
		return s.with(in.A, b)
	case api.Spawn:
		return s.with(in.B, "?").with(in.A, "n")
	case api.Done, api.Jz, api.Jmp, api.PutInt, api.Copy, api.Print, api.Stop:
		return s
	}
	return s.with(in.A, "n")
}

// fits: A and B, as letters, against what an operator asks of them ('.': a register that it does not ask of).
func (s letters) fits(in api.Instr) bool {
	asked := map[int][2]string{
		api.Done: {"su", "su"}, api.Add: {"n", "n"}, api.Sub: {"n", "n"}, api.Less: {"n", "n"},
		api.Jz: {"n", "."}, api.Print: {"n", "."}, api.GetInt: {".", "su"}, api.GetRef: {".", "su"},
		api.PutInt: {"su", "n"}, api.PutRef: {"su", "su"}, api.Move: {".", "nsu"},
		api.Send: {"u", "n"}, api.Copy: {"su", "n"}, api.Spawn: {".", "u"},
	}
	ask, some := asked[in.Op]
	a := ask[0] == "." || strings.Contains(ask[0], string(s[in.A]))
	b := ask[1] == "." || strings.Contains(ask[1], string(s[in.B]))
	return !some || a && b
}

// walked: round by round.
func walked(l []api.Instr) []letters {
	known := make([]letters, len(l))
	known[0] = "uu??????"
	for before := ""; before != told(known); {
		before = told(known)
		for i, in := range l {
			if known[i] == "" || in.Op == api.Done || in.Op == api.Stop {
				continue
			}
			way := known[i].after(in)
			if in.Op != api.Jmp {
				known[i+1] = joined(known[i+1], way)
			}
			if in.Op == api.Jmp || in.Op == api.Jz {
				known[i+in.N] = joined(known[i+in.N], way)
			}
		}
	}
	return known
}

// first one that may not be done.
func first(p api.Program) (int, int, api.Errno) {
	for k, l := range p.Kinds {
		for i, s := range walked(l) {
			if s != "" && !s.fits(l[i]) {
				return k, i, api.ErrType
			}
		}
	}
	return 0, 0, api.OK
}

func TestDrawnTypes(t *testing.T) {
	d := dice(1)
	for range 6000 {
		p := d.program()
		if e := code.Check(p); e != api.OK {
			t.Fatalf("code's Check(%v): %d", p, e)
		}
		for k, l := range p.Kinds {
			var want [][]int
			for _, s := range walked(l) {
				want = append(want, s.list())
			}
			wantTypes(t, told(l), p, k, want)
		}
	}
}

func TestDrawnCheck(t *testing.T) {
	d := dice(2)
	var met [2]int
	for range 6000 {
		p := d.program()
		p.Kinds = p.Kinds[:1+d.below(len(p.Kinds))]
		if code.Check(p) != api.OK {
			continue // a Spawn of what is not there any more
		}
		k, i, e := first(p)
		met[int(e)/int(api.ErrType)]++
		wantCheck(t, told(p), p, k, i, e)
	}
	if met[0] < 100 || met[1] < 100 {
		t.Errorf("too few of one sort to tell anything: %v", met)
	}
}

// No numbers, however strange, make a call panic; what is refused is empty.
func TestDrawnWithoutSense(t *testing.T) {
	d := dice(3)
	odd := []int{0, 0, 0, 1, 2, 3, 5, 7, 8, 13, 19, 20, -1, 60, 61, math.MinInt, math.MaxInt}
	draw := func() int { return odd[d.below(len(odd))] }
	for range 5000 {
		p := api.Program{Kinds: make([][]api.Instr, d.below(4))}
		for k := range p.Kinds {
			for range d.below(4) {
				p.Kinds[k] = append(p.Kinds[k], api.Instr{Op: draw(), A: draw(), B: draw(), N: draw()})
			}
		}
		verify.Join(draw(), draw())
		if l, e := verify.Types(p, draw()); e != api.OK && len(l) != 0 {
			t.Errorf("Types(%v): %v, %d", p, l, e)
		}
		if k, i, e := verify.Check(p); e != api.ErrType && (k != 0 || i != 0) {
			t.Errorf("Check(%v): %d, %d, %d", p, k, i, e)
		}
	}
}
