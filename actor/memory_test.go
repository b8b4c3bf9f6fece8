package actor_test

import (
	"testing"
	"unsafe"

	"treadwheel/actor"
	"treadwheel/api"
)

var mark = api.Value{Kind: 77, N: 77}

// stretch of memory that a list takes, its spare room too.
type stretch struct {
	what        string
	begin, past uintptr
}

func memory[T any](what string, l []T) []stretch {
	if cap(l) == 0 {
		return nil
	}
	begin := uintptr(unsafe.Pointer(unsafe.SliceData(l)))
	return []stretch{{what, begin, begin + uintptr(cap(l))*unsafe.Sizeof(l[:1][0])}}
}

func memoryOf(what string, w api.World) []stretch {
	out := append(memory(what+"'s actors", w.Actors), memory(what+"'s prints", w.Prints)...)
	for _, a := range w.Actors {
		out = append(out, memory(what+"'s registers", a.Regs)...)
		out = append(out, memory(what+"'s messages", a.Box)...)
		out = append(out, memory(what+"'s objects", a.Heap.Objects)...)
		for _, o := range a.Heap.Objects {
			out = append(out, memory(what+"'s fields", o.Fields)...)
		}
	}
	return out
}

func memoryOfProgram(p api.Program) []stretch {
	out := memory("the program", p.Kinds)
	for _, l := range p.Kinds {
		out = append(out, memory("a behavior", l)...)
	}
	return out
}

func wantApart(t *testing.T, all []stretch) {
	t.Helper()
	for i, a := range all {
		for _, b := range all[:i] {
			if a.begin < b.past && b.begin < a.past {
				t.Errorf("%s and %s share memory", a.what, b.what)
			}
		}
	}
}

// roomy list: with spare room, that is marked.
func roomy[T any](mark T, l ...T) []T {
	out := make([]T, len(l), len(l)+3)
	copy(out, l)
	for i := len(l); i < cap(out); i++ {
		out[:cap(out)][i] = mark
	}
	return out
}

// roomyWorld: its lists have spare room. The first actor is to do what stands at that place; there is litter, a message, and a child.
func roomyWorld(pc int) api.World {
	values := func(l ...api.Value) []api.Value { return roomy(mark, l...) }
	objects := func() []api.Object {
		return roomy(api.Object{Fields: []api.Value{mark}},
			api.Object{Fields: values(num(1), num(2))}, api.Object{Fields: values(num(4), ref(2))}, api.Object{Fields: values(empty)}, api.Object{Fields: values(), Dead: true})
	}
	one := api.Actor{Parent: -1, Heap: api.Heap{Most: 4, Objects: objects()}, Pc: pc, Box: values(ref(1), ref(1))}
	one.Regs = values(ref(2), empty, ref(1), num(1), num(0), empty, empty, empty)
	two := api.Actor{Parent: 0, Heap: api.Heap{Most: 4, Objects: objects()}, Pc: pc, Box: values(ref(2))}
	two.Regs = values(ref(1), num(2), ref(1), num(0), num(1), empty, empty, empty)
	w := api.World{Actors: roomy(api.Actor{Kind: 77}, one, two), Prints: roomy(api.Told{Actor: 77}, api.Told{N: 1})}
	return w
}

// whole: a world with the spare room of its lists, as a text.
func whole(w api.World) string {
	s := told(w, w.Actors[:cap(w.Actors)], w.Prints[:cap(w.Prints)])
	for _, a := range w.Actors {
		s += told(a.Regs[:cap(a.Regs)], a.Box[:cap(a.Box)], a.Heap.Objects[:cap(a.Heap.Objects)])
		for _, o := range a.Heap.Objects {
			s += told(o.Fields[:cap(o.Fields)])
		}
	}
	return s
}

// tasks: instructions that have something to do in that world.
var tasks = []api.Instr{
	{Op: api.Done}, {Op: api.Li, A: 1}, {Op: api.Add, A: 3, B: 4}, {Op: api.Sub, A: 3, B: 4}, {Op: api.Less, A: 3, B: 4},
	{Op: api.Jz, A: 3, N: 1}, {Op: api.Jmp, N: 1}, {Op: api.New, A: 1, N: 2}, {Op: api.GetInt, A: 1, B: 2}, {Op: api.PutInt, A: 2, B: 3},
	{Op: api.GetRef, A: 1, B: 2, N: 1}, {Op: api.PutRef, A: 2, B: 0, N: 1}, {Op: api.Move, A: 1, B: 2},
	{Op: api.Send, A: 2, B: 3}, {Op: api.Send, A: 2, B: 4}, {Op: api.Copy, A: 2, B: 3}, {Op: api.Copy, A: 2, B: 4},
	{Op: api.Print, A: 3}, {Op: api.Self, A: 1}, {Op: api.Spawn, A: 1, B: 2}, {Op: api.Drop, A: 2}, {Op: api.Stop},
}

func TestMemoryOfDo(t *testing.T) {
	for _, in := range tasks {
		p := program(behind(in))
		for _, a := range []api.Act{step(0), step(1), step(2), collect(0), tell(1, 3, 4)} {
			for _, pc := range []int{-1, 1} {
				what := told(in, a, pc)
				w := roomyWorld(pc)
				one, e := actor.Do(p, w, a)
				two, f := actor.Do(p, w, a)
				if e != api.OK || f != api.OK {
					t.Fatalf("%s: %d", what, e)
				}
				if whole(w) != whole(roomyWorld(pc)) {
					t.Errorf("%s: what is handed in is changed: %s", what, whole(w))
				}
				if told(one) != told(two) {
					t.Errorf("%s: %+v, and then %+v", what, one, two)
				}
				all := append(memoryOf("a world handed in", w), memoryOfProgram(p)...)
				wantApart(t, append(append(all, memoryOf(what+": an answer", one)...), memoryOf(what+": another answer", two)...))
			}
		}
		if told(p) != told(program(behind(in))) {
			t.Errorf("%v: the program is changed", in)
		}
	}
}

func TestMemoryOfCopyAndCheck(t *testing.T) {
	w := roomyWorld(-1)
	one, two := actor.Copy(w), actor.Copy(w)
	wantApart(t, append(append(memoryOf("a world handed in", w), memoryOf("a copy", one)...), memoryOf("another copy", two)...))
	if e := actor.Check(idle, w); e != api.OK {
		t.Error(e)
	}
	if whole(w) != whole(roomyWorld(-1)) {
		t.Errorf("what is handed in is changed: %s", whole(w))
	}
}

func TestMemoryOfNewAndRun(t *testing.T) {
	l := roomy(api.Act{Kind: 77}, tell(0, 1, 2), step(0), tell(0, 3, 4), collect(0), step(0))
	before := told(l[:cap(l)])
	d := dice(7)
	for range 200 {
		p := d.good()
		text := told(p)
		script := append(l, d.script(60)...)
		one, _ := actor.Run(p, 20, script)
		two, _ := actor.Run(p, 20, script)
		three, _ := actor.New(p, 20)
		four, _ := actor.New(p, 20)
		all := append(memory("acts", script), memoryOfProgram(p)...)
		for i, w := range []api.World{one, two, three, four} {
			all = append(all, memoryOf(told("world", i), w)...)
		}
		wantApart(t, all)
		if told(p) != text || told(one) != told(two) {
			t.Errorf("%v: the program is changed, or one answer is not like the other", p)
		}
	}
	if told(l[:cap(l)]) != before {
		t.Error("the acts are changed")
	}
}
