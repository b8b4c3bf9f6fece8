package code_test

import (
	"bytes"
	"math"
	"reflect"
	"testing"

	"treadwheel/api"
	"treadwheel/code"
)

// dice: numbers that look drawn, the same each time.
type dice uint64

// below: from 0 to below most.
func (d *dice) below(most int) int {
	*d = *d*6364136223846793005 + 1442695040888963407
	return int(uint64(*d>>20) % uint64(most))
}

// instr that may be at that place.
func (d *dice) instr(place, length, kinds int) api.Instr {
	in := api.Instr{Op: d.below(20)}
	w := wanted[in.Op]
	if w.a {
		in.A = d.below(8)
	}
	if w.b {
		in.B = d.below(8)
	}
	switch in.Op {
	case api.Li: // of any length
		in.N = (d.below(2*word+1) - word) >> d.below(41)
	case api.Jz, api.Jmp:
		in.N = d.below(length) - place
	case api.Spawn:
		in.N = d.below(kinds)
	default:
		in.N = w.least + d.below(w.most-w.least+1)
	}
	return in
}

// program that may be.
func (d *dice) program() api.Program {
	kinds := make([][]api.Instr, 1+d.below(6))
	for k := range kinds {
		length := 1 + d.below(60)
		for place := range length {
			kinds[k] = append(kinds[k], d.instr(place, length, len(kinds)))
		}
		kinds[k][length-1] = []api.Instr{done, {Op: api.Stop}, {Op: api.Jmp, N: 1 - length}}[d.below(3)]
	}
	return api.Program{Kinds: kinds}
}

// bytes near those of a program: some are others, some at the end are gone, or there are more.
func (d *dice) bytes() []byte {
	b, _ := code.Encode(d.program())
	for range d.below(3) {
		b[d.below(len(b))] = byte(d.below(256))
	}
	switch d.below(4) {
	case 0:
		b = b[:d.below(len(b)+1)]
	case 1:
		b = append(b, byte(d.below(256)))
	}
	return b
}

func TestDrawnThereAndBack(t *testing.T) {
	d := dice(1)
	for range 500 {
		p := d.program()
		wantCheck(t, "drawn", p, api.OK)
		b, e := code.Encode(p)
		if e != api.OK {
			t.Fatalf("Encode(%v): %d", p, e)
		}
		wantDecode(t, b, p)
	}
}

// What Decode takes Encode tells in the same bytes: no program has two forms.
func TestDrawnBackAndThere(t *testing.T) {
	d := dice(2)
	taken := 0
	for range 3000 {
		b := d.bytes()
		p, e := code.Decode(b)
		if e != api.OK {
			wantRefused(t, "drawn", b, e)
			continue
		}
		taken++
		if c, e := code.Encode(p); e != api.OK || !bytes.Equal(b, c) {
			t.Errorf("Decode(%v): %v, and Encode of that %v, %d", b, p, c, e)
		}
	}
	if taken < 100 || taken > 2900 {
		t.Errorf("%d of 3000 were taken: too few of one sort to tell anything", taken)
	}
}

func TestDrawnBytesWithoutSense(t *testing.T) {
	d := dice(3)
	for range 2000 {
		b := make([]byte, d.below(80))
		for i := range b {
			b[i] = byte(d.below(256) >> d.below(8))
		}
		if len(b) > 2 {
			b[0], b[1] = 't', 'w'
		}
		if p, e := code.Decode(b); e == api.OK && code.Check(p) != api.OK {
			t.Errorf("Decode(%v): %v, that Check refuses", b, p)
		}
	}
}

// The largest program that may be is within MaxBytes.
func TestLargestProgram(t *testing.T) {
	l := append(repeat(api.Instr{Op: api.Li, A: 7, N: -word}, 59), done)
	p := program(l, l, l, l, l, l)
	b, e := code.Encode(p)
	if e != api.OK || len(b) != 3+6*(1+59*8+1) {
		t.Fatalf("Encode: %d bytes, %d", len(b), e)
	}
	wantDecode(t, b, p)
}

func TestCopyIsTheSame(t *testing.T) {
	d := dice(4)
	strange := program(nil, []api.Instr{{Op: -1, A: math.MinInt, B: math.MaxInt, N: math.MinInt}}, repeat(api.Instr{Op: 99, N: 1}, 200))
	for _, p := range []api.Program{d.program(), d.program(), strange, {Kinds: make([][]api.Instr, 300)}} {
		c := code.Copy(p)
		if len(c.Kinds) != len(p.Kinds) {
			t.Fatalf("Copy: %d behaviors, want %d", len(c.Kinds), len(p.Kinds))
		}
		for i := range p.Kinds {
			if len(c.Kinds[i])+len(p.Kinds[i]) > 0 && !reflect.DeepEqual(c.Kinds[i], p.Kinds[i]) {
				t.Errorf("Copy: behavior %d is %v, want %v", i, c.Kinds[i], p.Kinds[i])
			}
		}
	}
	if c := code.Copy(api.Program{}); len(c.Kinds) != 0 {
		t.Errorf("Copy of no behaviors: %v", c)
	}
}
