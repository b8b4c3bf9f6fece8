package actor_test

import (
	"fmt"
	"math"
	"testing"

	"treadwheel/actor"
	"treadwheel/api"
	"treadwheel/heap"
	"treadwheel/verify"
)

const word = 1 << 40

var (
	empty = api.Value{}
	dead  = api.Object{Dead: true}
	done  = api.Instr{Op: api.Done}
)

func ref(n int) api.Value { return api.Value{Kind: api.Ref, N: n} }

func num(n int) api.Value { return api.Value{Kind: api.Int, N: n} }

func object(fields ...api.Value) api.Object { return api.Object{Fields: fields} }

func heapOf(most int, objects ...api.Object) api.Heap {
	return api.Heap{Most: most, Objects: objects}
}

func program(kinds ...[]api.Instr) api.Program { return api.Program{Kinds: kinds} }

// behind Done nobody comes to an instruction, so that a verifier lets it be whatever it is: it stands at place 1.
func behind(in api.Instr) []api.Instr { return []api.Instr{done, in, done, done, done} }

// being: an actor that nobody began, at that place, with these first registers.
func being(pc int, h api.Heap, regs ...api.Value) api.Actor {
	all := make([]api.Value, 8)
	copy(all, regs)
	return api.Actor{Parent: -1, Heap: h, Regs: all, Pc: pc}
}

// child of an actor.
func child(parent int, a api.Actor) api.Actor {
	a.Parent = parent
	return a
}

// with these messages.
func with(a api.Actor, box ...api.Value) api.Actor {
	a.Box = box
	return a
}

// ended in that way: what is left of an actor.
func ended(a api.Actor, way int) api.Actor {
	return api.Actor{Kind: a.Kind, Parent: a.Parent, Heap: heapOf(a.Heap.Most), Regs: make([]api.Value, 8), Pc: -1, End: way}
}

func world(actors ...api.Actor) api.World { return api.World{Actors: actors} }

// told: answers as one text; an empty list is told alike, be it nil or not.
func told(answers ...any) string { return fmt.Sprintf("%+v", answers) }

// want: both are given as answers, in the order in which a call gives them.
func want(t *testing.T, what string, got, wanted []any) {
	t.Helper()
	if g, w := told(got...), told(wanted...); g != w {
		t.Errorf("%s:\n got %s\nwant %s", what, g, w)
	}
}

// all: the answers of a call as a list.
func all(answers ...any) []any { return answers }

// wantDo: the world and the act may be, and that is what comes of it.
func wantDo(t *testing.T, what string, p api.Program, before api.World, a api.Act, after api.World) {
	t.Helper()
	if e := actor.Check(p, before); e != api.OK {
		t.Fatalf("%s: the world that is handed in may not be: %d, %+v", what, e, before)
	}
	want(t, what, all(actor.Do(p, before, a)), all(after, api.OK))
	if e := actor.Check(p, after); e != api.OK {
		t.Errorf("%s: the world that comes of it may not be: %d", what, e)
	}
}

// refused programs: of each sort one, and what verify says of them.
var refused = []struct {
	p api.Program
	e api.Errno
}{
	{program(), api.ErrNone},
	{program(nil), api.ErrSize},
	{program([]api.Instr{{Op: 20}}), api.ErrKind},
	{program([]api.Instr{{Op: api.Print, A: 8}, done}), api.ErrRange},
	{program([]api.Instr{{Op: api.Print, B: 1}, done}), api.ErrForm},
	{program([]api.Instr{{Op: api.Li}}), api.ErrShort},
	{program([]api.Instr{{Op: api.Print, A: 2}, done}), api.ErrType},
	{program([]api.Instr{done}, []api.Instr{{Op: api.Li, A: 2}, {Op: api.Send, A: 0, B: 2}, done}), api.ErrType},
}

func TestRefusedPrograms(t *testing.T) {
	acts := [][]api.Act{nil, {{Kind: 9, Actor: -1}}, make([]api.Act, 3001)}
	for _, c := range refused {
		if _, _, e := verify.Check(c.p); e != c.e {
			t.Fatalf("verify's Check(%v): %d, want %d", c.p, e, c.e)
		}
		for _, most := range []int{5, 1, 61, math.MinInt} {
			want(t, "New", all(actor.New(c.p, most)), all(world(), c.e))
			for _, l := range acts {
				want(t, "Run", all(actor.Run(c.p, most, l)), all(world(), c.e))
			}
		}
		for _, w := range []api.World{world(), world(being(-1, heapOf(2, object(empty)), ref(0)))} {
			want(t, "Check", all(actor.Check(c.p, w)), all(c.e))
			want(t, "Do", all(actor.Do(c.p, w, api.Act{Kind: api.Step})), all(world(), c.e))
			want(t, "Do of what is no act", all(actor.Do(c.p, w, api.Act{Kind: 4, Actor: 9})), all(world(), c.e))
		}
	}
}

func TestNew(t *testing.T) {
	p := program([]api.Instr{done}, behind(api.Instr{Op: api.Stop}))
	for _, most := range []int{2, 3, 31, 59, 60} {
		first := being(-1, heapOf(most, object(num(0), num(0))), ref(0))
		want(t, "New", all(actor.New(p, most)), all(world(first), api.OK))
		want(t, "Check of it", all(actor.Check(p, world(first))), all(api.OK))
		want(t, "Run of nothing", all(actor.Run(p, most, nil)), all(world(first), api.OK))
	}
	for _, most := range []int{1, 0, -1, -2, 61, 62, math.MinInt, math.MaxInt} {
		want(t, "New beyond its bounds", all(actor.New(p, most)), all(world(), api.ErrRange))
	}
}

// plain: a program of three behaviors, of 1, 3 and 60 instructions, and a world of it, of two actors that live and one that has ended.
func plain() (api.Program, api.World) {
	long := make([]api.Instr, 60)
	p := program([]api.Instr{done}, []api.Instr{done, done, done}, long)
	first := with(being(-1, heapOf(9, object(ref(1), num(3)), dead, object(empty)), ref(0), ref(1), num(word), num(-word)), ref(2), ref(1))
	second := child(0, being(2, heapOf(2), num(5)))
	second.Kind = 1
	third := child(1, ended(being(0, heapOf(60)), api.Broken))
	third.Kind = 2
	w := world(first, second, third)
	w.Prints = []api.Told{{Actor: 0, N: word}, {Actor: 2, N: -word}}
	return p, w
}

// times: a list of so many.
func times[T any](n int, x T) []T {
	var l []T
	for range n {
		l = append(l, x)
	}
	return l
}

// worlds: what is changed of the plain one, and whether it may be then.
var worlds = []struct {
	what   string
	change func(w *api.World)
	may    bool
}{
	{"as it is", func(w *api.World) {}, true},
	{"no actors", func(w *api.World) { w.Actors, w.Prints = nil, nil }, false},
	{"one actor", func(w *api.World) { w.Actors, w.Prints = w.Actors[:1], nil }, true},
	{"8 actors", func(w *api.World) { w.Actors = append(w.Actors, times(5, w.Actors[2])...) }, true},
	{"9 actors", func(w *api.World) { w.Actors = append(w.Actors, times(6, w.Actors[2])...) }, false},
	{"500 prints", func(w *api.World) { w.Prints = times(500, api.Told{Actor: 1}) }, true},
	{"501 prints", func(w *api.World) { w.Prints = times(501, api.Told{Actor: 1}) }, false},
	{"a print of nobody", func(w *api.World) { w.Prints[1].Actor = -1 }, false},
	{"a print of one that is not there", func(w *api.World) { w.Prints[1].Actor = 3 }, false},
	{"a print of one far off", func(w *api.World) { w.Prints[0].Actor = math.MaxInt }, false},
	{"a print above MaxWord", func(w *api.World) { w.Prints[0].N++ }, false},
	{"a print below -MaxWord", func(w *api.World) { w.Prints[1].N-- }, false},
	{"the last behavior", func(w *api.World) { w.Actors[0].Kind = 2 }, true},
	{"a behavior beyond", func(w *api.World) { w.Actors[0].Kind = 3 }, false},
	{"a behavior below 0", func(w *api.World) { w.Actors[0].Kind = -1 }, false},
	{"a behavior far off", func(w *api.World) { w.Actors[2].Kind = math.MinInt }, false},
	{"a parent below -1", func(w *api.World) { w.Actors[0].Parent = -2 }, false},
	{"the first one has itself as parent", func(w *api.World) { w.Actors[0].Parent = 0 }, false},
	{"the last one has itself as parent", func(w *api.World) { w.Actors[2].Parent = 2 }, false},
	{"a parent behind", func(w *api.World) { w.Actors[1].Parent = 2 }, false},
	{"all of nobody", func(w *api.World) { w.Actors[1].Parent, w.Actors[2].Parent = -1, -1 }, true},
	{"7 registers", func(w *api.World) { w.Actors[1].Regs = w.Actors[1].Regs[:7] }, false},
	{"9 registers", func(w *api.World) { w.Actors[1].Regs = append(w.Actors[1].Regs, empty) }, false},
	{"no registers", func(w *api.World) { w.Actors[2].Regs = nil }, false},
	{"6 messages", func(w *api.World) { w.Actors[0].Box = times(6, ref(1)) }, true},
	{"7 messages", func(w *api.World) { w.Actors[0].Box = times(7, ref(1)) }, false},
	{"a message that is a number", func(w *api.World) { w.Actors[0].Box[1] = num(0) }, false},
	{"a message that is Nil", func(w *api.World) { w.Actors[0].Box[0] = empty }, false},
	{"a message beyond the heap", func(w *api.World) { w.Actors[0].Box[0] = ref(3) }, false},
	{"a register beyond the heap", func(w *api.World) { w.Actors[0].Regs[7] = ref(3) }, false},
	{"a register below the heap", func(w *api.World) { w.Actors[0].Regs[7] = ref(-1) }, false},
	{"a register of an empty heap", func(w *api.World) { w.Actors[1].Regs[7] = ref(0) }, false},
	{"a register above MaxWord", func(w *api.World) { w.Actors[0].Regs[2] = num(word + 1) }, false},
	{"a register of no kind", func(w *api.World) { w.Actors[0].Regs[2] = api.Value{Kind: 3} }, false},
	{"a Nil with a number", func(w *api.World) { w.Actors[0].Regs[2] = api.Value{N: 1} }, false},
	{"a heap as full as may be", func(w *api.World) { w.Actors[0].Heap.Most = 3 }, true},
	{"a heap too full", func(w *api.World) { w.Actors[0].Heap.Most = 2 }, false},
	{"a heap of 61", func(w *api.World) { w.Actors[1].Heap.Most = 61 }, false},
	{"a heap of none", func(w *api.World) { w.Actors[1].Heap.Most = 0 }, true},
	{"a heap below none", func(w *api.World) { w.Actors[2].Heap.Most = -1 }, false},
	{"an object without fields", func(w *api.World) { w.Actors[0].Heap.Objects[2] = object() }, false},
	{"a dead one with a field", func(w *api.World) { w.Actors[0].Heap.Objects[1].Fields = []api.Value{empty} }, false},
	{"a field beyond the heap", func(w *api.World) { w.Actors[0].Heap.Objects[0].Fields[0].N = 3 }, false},
	{"the first place", func(w *api.World) { w.Actors[0].Pc = 0 }, true},
	{"below waiting", func(w *api.World) { w.Actors[0].Pc = -2 }, false},
	{"a place beyond one instruction", func(w *api.World) { w.Actors[0].Pc = 1 }, false},
	{"a place beyond three", func(w *api.World) { w.Actors[1].Pc = 3 }, false},
	{"the last of sixty", func(w *api.World) { w.Actors[1].Kind, w.Actors[1].Pc = 2, 59 }, true},
	{"a place beyond sixty", func(w *api.World) { w.Actors[1].Kind, w.Actors[1].Pc = 2, 60 }, false},
	{"no way to end", func(w *api.World) { w.Actors[2].End = 9 }, false},
	{"another that is none", func(w *api.World) { w.Actors[2].End = -1 }, false},
	{"Stopped", func(w *api.World) { w.Actors[2].End = api.Stopped }, true},
	{"it lives", func(w *api.World) { w.Actors[2].End = api.Lives }, true},
	{"ended, at a place", func(w *api.World) { w.Actors[2].Pc = 0 }, false},
	{"ended, with an object", func(w *api.World) { w.Actors[2].Heap.Objects = []api.Object{object(empty)} }, false},
	{"ended, with a dead object", func(w *api.World) { w.Actors[2].Heap.Objects = []api.Object{dead} }, false},
	{"ended, with an object and a message", func(w *api.World) {
		w.Actors[2].Heap.Objects, w.Actors[2].Box = []api.Object{object(empty)}, []api.Value{ref(0)}
	}, false},
	{"ended, with a number left", func(w *api.World) { w.Actors[2].Regs[3] = num(4) }, true},
	{"ended, with a Ref left", func(w *api.World) { w.Actors[2].Regs[3] = ref(0) }, false},
}

func TestCheck(t *testing.T) {
	for _, c := range worlds {
		p, w := plain()
		c.change(&w)
		e := api.ErrState
		if c.may {
			e = api.OK
		}
		want(t, "Check, "+c.what, all(actor.Check(p, w)), all(e))
		after, f := actor.Do(p, w, api.Act{Kind: api.Collect, Actor: 7})
		if f != e || e != api.OK && told(after) != told(world()) {
			t.Errorf("Do, %s: %+v, %d, want %d", c.what, after, f, e)
		}
	}
}

// Of what may not be, too.
func TestCopy(t *testing.T) {
	for _, c := range worlds {
		_, w := plain()
		c.change(&w)
		want(t, "Copy, "+c.what, all(actor.Copy(w)), all(w))
	}
	want(t, "Copy of nothing", all(actor.Copy(world())), all(world()))
}

// What Check says of a heap, with registers and messages, is what heap's Check says.
func TestCheckAsksTheHeap(t *testing.T) {
	d := dice(11)
	p := program([]api.Instr{done})
	var met [2]int
	for range 3000 {
		a := d.being(0, 1)
		a.Kind, a.Parent, a.End = 0, -1, api.Lives
		switch d.below(4) {
		case 0:
			a.Regs[d.below(8)] = api.Value{Kind: d.below(4), N: d.below(6) - 1}
		case 1:
			a.Heap.Most = d.below(64) - 1
		case 2:
			a.Heap.Objects = append(a.Heap.Objects, api.Object{Fields: times(d.below(6), num(word+d.below(2)))})
		}
		e := heap.Check(a.Heap, append(append([]api.Value{}, a.Regs...), a.Box...))
		met[int(e)/int(api.ErrState)]++
		want(t, "Check", all(actor.Check(p, world(a))), all(e))
	}
	if met[0] < 100 || met[1] < 100 {
		t.Errorf("too few of one sort to tell anything: %v", met)
	}
}
