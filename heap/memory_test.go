package heap_test

import (
	"testing"
	"unsafe"

	"treadwheel/api"
	"treadwheel/heap"
)

var mark = api.Value{Kind: 77, N: 77}

// stretch of memory that a list takes, its spare room too.
type stretch struct {
	what        string
	begin, past uintptr
}

func memory[T any](what string, l []T) []stretch {
	if cap(l) == 0 {
		return nil
	}
	begin := uintptr(unsafe.Pointer(unsafe.SliceData(l)))
	return []stretch{{what, begin, begin + uintptr(cap(l))*unsafe.Sizeof(l[:1][0])}}
}

func memoryOf(what string, h api.Heap) []stretch {
	out := memory(what+"'s objects", h.Objects)
	for _, o := range h.Objects {
		out = append(out, memory(what+"'s fields", o.Fields)...)
	}
	return out
}

func wantApart(t *testing.T, all []stretch) {
	t.Helper()
	for i, a := range all {
		for _, b := range all[:i] {
			if a.begin < b.past && b.begin < a.past {
				t.Errorf("%s and %s share memory", a.what, b.what)
			}
		}
	}
}

// roomy: a heap whose lists have spare room, that is marked.
func roomy() api.Heap {
	fields := [][]api.Value{
		{ref(1), num(3), mark, mark},
		{ref(1), mark, mark},
		{mark, mark},
		{empty, ref(0), num(4), mark},
	}
	objects := []api.Object{{Fields: fields[0][:2]}, {Fields: fields[1][:1]}, {Fields: fields[2][:0], Dead: true}, {Fields: fields[3][:3]},
		{Fields: []api.Value{mark}}, {Fields: []api.Value{mark}}, {Fields: []api.Value{mark}}, {Fields: []api.Value{mark}}}
	return api.Heap{Most: 40, Objects: objects[:4]}
}

// whole: a heap with the spare room of its lists, as a text.
func whole(h api.Heap) string {
	s := told(h)
	for _, o := range h.Objects[:cap(h.Objects)] {
		s += told(o.Fields[:cap(o.Fields)], o.Dead)
	}
	return s
}

// answer of a call: heaps and lists.
type answer struct {
	heaps  []api.Heap
	values [][]api.Value
	places [][]int
}

func (a answer) memory(what string) []stretch {
	var out []stretch
	for _, h := range a.heaps {
		out = append(out, memoryOf(what+" heap", h)...)
	}
	for _, l := range a.values {
		out = append(out, memory(what+" values", l)...)
	}
	for _, l := range a.places {
		out = append(out, memory(what+" places", l)...)
	}
	return out
}

// calls: all that take a heap, each so that it has something to do.
var calls = []struct {
	what string
	do   func(h, to api.Heap, roots []api.Value) answer
}{
	{"Check", func(h, to api.Heap, roots []api.Value) answer {
		heap.Check(h, roots)
		return answer{}
	}},
	{"Clone", func(h, to api.Heap, roots []api.Value) answer {
		return answer{heaps: []api.Heap{heap.Clone(h)}}
	}},
	{"Alloc", func(h, to api.Heap, roots []api.Value) answer {
		g, _, _ := heap.Alloc(h, 3)
		return answer{heaps: []api.Heap{g}}
	}},
	{"Get", func(h, to api.Heap, roots []api.Value) answer {
		heap.Get(h, roots[0], 1)
		return answer{}
	}},
	{"Set", func(h, to api.Heap, roots []api.Value) answer {
		g, _ := heap.Set(h, roots[0], 1, num(9))
		return answer{heaps: []api.Heap{g}}
	}},
	{"Reach", func(h, to api.Heap, roots []api.Value) answer {
		l, _ := heap.Reach(h, roots)
		return answer{places: [][]int{l}}
	}},
	{"Collect", func(h, to api.Heap, roots []api.Value) answer {
		g, l, _ := heap.Collect(h, roots)
		return answer{heaps: []api.Heap{g}, values: [][]api.Value{l}}
	}},
	{"Collect of all", func(h, to api.Heap, roots []api.Value) answer {
		g, l, _ := heap.Collect(h, []api.Value{ref(3), ref(2)})
		return answer{heaps: []api.Heap{g}, values: [][]api.Value{l}}
	}},
	{"Transfer, copied", func(h, to api.Heap, roots []api.Value) answer {
		from, to, _, _ := heap.Transfer(h, roots[0], to, false)
		return answer{heaps: []api.Heap{from, to}}
	}},
	{"Transfer, moved", func(h, to api.Heap, roots []api.Value) answer {
		from, to, _, _ := heap.Transfer(h, roots[0], to, true)
		return answer{heaps: []api.Heap{from, to}}
	}},
	{"Transfer of nothing", func(h, to api.Heap, roots []api.Value) answer {
		from, to, _, _ := heap.Transfer(h, roots[1], to, true)
		return answer{heaps: []api.Heap{from, to}}
	}},
	{"Transfer to itself", func(h, to api.Heap, roots []api.Value) answer {
		from, to, _, _ := heap.Transfer(h, roots[0], h, true)
		return answer{heaps: []api.Heap{from, to}}
	}},
}

func TestWhatIsHandedInStays(t *testing.T) {
	for _, c := range calls {
		h, to, roots := roomy(), roomy(), []api.Value{ref(0), num(5), ref(2), mark, mark}
		a := c.do(h, to, roots[:3])
		if got := whole(h) + whole(to) + told(roots); got != whole(roomy())+whole(roomy())+told([]api.Value{ref(0), num(5), ref(2), mark, mark}) {
			t.Errorf("%s changes what it is handed: %s", c.what, got)
		}
		if len(a.heaps) > 0 && len(a.heaps[0].Objects) == 0 {
			t.Errorf("%s: there is nothing to look at", c.what)
		}
	}
}

// Neither what was handed in, nor other lists of the answer, nor another answer.
func TestAnswersShareNothing(t *testing.T) {
	for _, c := range calls {
		h, to, roots := roomy(), roomy(), []api.Value{ref(0), num(5), ref(2), mark, mark}
		one, two := c.do(h, to, roots[:3]), c.do(h, to, roots[:3])
		given := append(append(memoryOf("a heap handed in", h), memoryOf("another one", to)...), memory("values handed in", roots)...)
		wantApart(t, append(append(given, one.memory(c.what+": an answer's")...), two.memory(c.what+": another answer's")...))
	}
}
