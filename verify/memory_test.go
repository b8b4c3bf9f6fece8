package verify_test

import (
	"testing"
	"unsafe"

	"treadwheel/api"
	"treadwheel/verify"
)

var mark = api.Instr{Op: 77, A: 77, B: 77, N: 77}

// roomy: a program whose lists have spare room, that is marked.
func roomy() api.Program {
	first := []api.Instr{{Op: api.GetRef, A: 2, B: 1}, {Op: api.Jmp, N: 2}, stop, done, mark, mark}
	second := []api.Instr{{Op: api.Print, A: 5}, stop, mark}
	kinds := [][]api.Instr{first[:4], second[:2], {mark}, nil}
	return api.Program{Kinds: kinds[:2]}
}

// whole: a program with the spare room of its lists, as a text.
func whole(p api.Program) string {
	s := told(p)
	for _, l := range p.Kinds[:cap(p.Kinds)] {
		s += told(l[:cap(l)])
	}
	return s
}

func TestProgramsStayAsTheyWere(t *testing.T) {
	p := roomy()
	for kind := -1; kind < 3; kind++ {
		verify.Types(p, kind)
	}
	verify.Check(p)
	if got := whole(p); got != whole(roomy()) {
		t.Errorf("the program is %s then", got)
	}
}

// Nothing is kept: neither a call in between, nor what is done with an answer, changes another one.
func TestAnswersHangOnArgumentsAlone(t *testing.T) {
	p := roomy()
	want, _ := verify.Types(p, 0)
	text := told(want)
	for range 3 {
		other, _ := verify.Types(p, 1)
		again, e := verify.Types(p, 0)
		if e != api.OK || told(again) != text || told(want) != text {
			t.Errorf("Types: %v, %d, and before %v, want %s", again, e, want, text)
		}
		for _, l := range append(again, other...) {
			clear(l[:cap(l)])
		}
		wantCheck(t, "roomy", p, 1, 0, api.ErrType)
	}
}

// stretch of memory that a list takes, its spare room too.
type stretch struct{ begin, past uintptr }

func memory[T any](l []T) []stretch {
	if cap(l) == 0 {
		return nil
	}
	begin := uintptr(unsafe.Pointer(unsafe.SliceData(l)))
	return []stretch{{begin, begin + uintptr(cap(l))*unsafe.Sizeof(l[:1][0])}}
}

func memoryOf[T any](lists [][]T) []stretch {
	out := memory(lists)
	for _, l := range lists {
		out = append(out, memory(l)...)
	}
	return out
}

// Neither what was handed in, nor other lists of the answer, nor another answer.
// All answers are there ahead of the first look, so that none lies where another one was.
func TestAnswersShareNothing(t *testing.T) {
	p := roomy()
	var answers [][][]int
	for range 2 {
		for kind := range p.Kinds {
			l, e := verify.Types(p, kind)
			if e != api.OK || len(l) < 2 {
				t.Fatalf("Types: %v, %d: there is nothing to look at", l, e)
			}
			answers = append(answers, l)
		}
	}
	parts := memoryOf(p.Kinds)
	for _, l := range answers {
		parts = append(parts, memoryOf(l)...)
	}
	for i, a := range parts {
		for j, b := range parts[:i] {
			if a.begin < b.past && b.begin < a.past {
				t.Errorf("the lists %d and %d share memory", j, i)
			}
		}
	}
}
