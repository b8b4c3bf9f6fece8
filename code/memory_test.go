package code_test

import (
	"bytes"
	"reflect"
	"testing"

	"treadwheel/api"
	"treadwheel/code"
)

var mark = api.Instr{Op: 77, A: 77, B: 77, N: 77}

// roomy: a program whose lists have spare room, that is marked; and all of its memory, to be looked at.
func roomy() (api.Program, [][]api.Instr) {
	first := []api.Instr{{Op: api.Li, A: 1, N: 5}, done, mark, mark}
	second := []api.Instr{{Op: api.Stop}, mark}
	all := [][]api.Instr{first[:2], second[:1], {mark}}
	return api.Program{Kinds: all[:2]}, [][]api.Instr{first, second, all[2]}
}

// whole: a program with the spare room of its lists.
func whole(p api.Program) [][]api.Instr {
	var l [][]api.Instr
	for _, k := range p.Kinds[:cap(p.Kinds)] {
		l = append(l, k[:cap(k)])
	}
	return l
}

// overwrite a program, and its spare room.
func overwrite(p api.Program) {
	for _, k := range whole(p) {
		for i := range k {
			k[i] = mark
		}
	}
	clear(p.Kinds[:cap(p.Kinds)])
}

func TestProgramsStayAsTheyWere(t *testing.T) {
	for _, c := range []struct {
		what string
		do   func(api.Program)
	}{
		{"Check", func(p api.Program) { code.Check(p) }},
		{"Encode", func(p api.Program) { code.Encode(p) }},
		{"Copy", func(p api.Program) { code.Copy(p) }},
		{"Copy, overwritten", func(p api.Program) { overwrite(code.Copy(p)) }},
	} {
		p, memory := roomy()
		_, want := roomy()
		c.do(p)
		if got := whole(p); !reflect.DeepEqual(got, want) || !reflect.DeepEqual(memory, want) {
			t.Errorf("%s: the program is %v then, want %v", c.what, got, want)
		}
	}
}

func TestCopyStaysAsItIs(t *testing.T) {
	p, memory := roomy()
	want, _ := roomy()
	c := code.Copy(p)
	for _, l := range memory {
		clear(l)
	}
	clear(p.Kinds)
	if !reflect.DeepEqual(c.Kinds, [][]api.Instr{want.Kinds[0], want.Kinds[1]}) {
		t.Errorf("the copy is %v, once the program is another", c)
	}
}

func TestBytesStayAsTheyWere(t *testing.T) {
	b := []byte{'t', 'w', 2, 2, 1, 1, 10, 0, 1, 19, 77, 77, 77}
	want := append([]byte(nil), b...)
	p, e := code.Decode(b[:10])
	if e != api.OK || !bytes.Equal(b, want) {
		t.Fatalf("Decode: %d; the bytes are %v then, want %v", e, b, want)
	}
	clear(b)
	if q, _ := roomy(); !reflect.DeepEqual(p.Kinds, q.Kinds) {
		t.Errorf("the program is %v, once the bytes are others", p)
	}
}

// No list of an answer reaches into another one, not even by its spare room.
func TestAnswersShareNothing(t *testing.T) {
	b := []byte{'t', 'w', 2, 2, 1, 1, 10, 0, 1, 19}
	q, _ := roomy()
	first, _ := code.Decode(b)
	second, _ := code.Decode(b)
	for _, pair := range [][2]api.Program{{first, second}, {code.Copy(q), code.Copy(q)}} {
		one, other := pair[0], pair[1]
		for i := range one.Kinds {
			k := one.Kinds[i][:cap(one.Kinds[i])]
			for j := range k {
				k[j] = mark
			}
			if i == 0 && one.Kinds[1][0] != (api.Instr{Op: api.Stop}) {
				t.Errorf("two behaviors share memory: %v", one)
			}
		}
		overwrite(one)
		if !reflect.DeepEqual(other.Kinds, q.Kinds) {
			t.Errorf("two answers share memory: %v", other)
		}
	}
	c, _ := code.Encode(q)
	d, _ := code.Encode(q)
	clear(c[:cap(c)])
	if again, _ := code.Encode(q); !bytes.Equal(d, b) || !bytes.Equal(again, b) {
		t.Errorf("two answers share memory: %v, %v", d, again)
	}
}
