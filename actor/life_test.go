package actor_test

import (
	"testing"

	"treadwheel/actor"
	"treadwheel/api"
)

// idle: a program of behaviors that do nothing.
var idle = program([]api.Instr{done, done})

func collect(n int) api.Act { return api.Act{Kind: api.Collect, Actor: n} }

func step(n int) api.Act { return api.Act{Kind: api.Step, Actor: n} }

func tell(to, n, m int) api.Act { return api.Act{Kind: api.Tell, Actor: to, N: n, M: m} }

func pair(n, m int) api.Object { return object(num(n), num(m)) }

// littered: a heap as full as may be; only the objects 1, 2 (dead) and 4 are led to, if ref(4) and ref(1) are kept.
func littered() api.Heap {
	return heapOf(5, object(num(1)), object(ref(2), num(2)), dead, object(ref(4)), object(ref(4), num(3)))
}

// swept: what is left of it.
func swept(more ...api.Object) api.Heap {
	return heapOf(5, append([]api.Object{object(ref(1), num(2)), dead, object(ref(2), num(3))}, more...)...)
}

func TestCollect(t *testing.T) {
	for _, c := range []struct {
		what          string
		before, after api.Actor
	}{
		{"a register and a message", with(being(-1, littered(), num(4), ref(4)), ref(1)), with(being(-1, swept(), num(4), ref(2)), ref(0))},
		{"the last register", with(being(1, littered(), empty, empty, empty, empty, empty, empty, empty, ref(1)), ref(4), ref(1)),
			with(being(1, swept(), empty, empty, empty, empty, empty, empty, empty, ref(0)), ref(2), ref(0))},
		{"messages alone", with(being(0, littered(), num(1)), ref(4), ref(4), ref(4), ref(4), ref(4), ref(1)),
			with(being(0, swept(), num(1)), ref(2), ref(2), ref(2), ref(2), ref(2), ref(0))},
		{"a dead one alone", being(-1, littered(), ref(2)), being(-1, heapOf(5, dead), ref(0))},
		{"nothing is led to", being(-1, littered(), num(3)), being(-1, heapOf(5), num(3))},
		{"all is led to", being(-1, heapOf(3, object(ref(1)), object(num(2))), ref(0)), being(-1, heapOf(3, object(ref(1)), object(num(2))), ref(0))},
		{"nothing there", being(-1, heapOf(0)), being(-1, heapOf(0))},
		{"one that has ended", ended(being(-1, heapOf(7)), api.NoInt), ended(being(-1, heapOf(7)), api.NoInt)},
	} {
		other := child(0, with(being(-1, littered(), ref(4)), ref(1)))
		wantDo(t, c.what, idle, world(c.before, other), collect(0), world(c.after, other))
		wantDo(t, c.what+", the second one", idle, world(with(being(-1, littered()), ref(3)), child(0, c.before)), collect(1),
			world(with(being(-1, littered()), ref(3)), child(0, c.after)))
	}
	w := world(with(being(-1, littered()), ref(3)))
	wantDo(t, "one that is not there yet", idle, w, collect(1), w)
	wantDo(t, "the last one that may be", idle, w, collect(7), w)
}

func TestTold(t *testing.T) {
	fullBox := times(6, ref(1))
	for _, c := range []struct {
		what          string
		before, after api.Actor
	}{
		{"an empty heap", being(-1, heapOf(1)), with(being(-1, heapOf(1, pair(-7, 9))), ref(0))},
		{"behind all messages", with(being(-1, heapOf(9, pair(1, 2), dead), ref(0)), ref(1), ref(0)),
			with(being(-1, heapOf(9, pair(1, 2), dead, pair(-7, 9)), ref(0)), ref(1), ref(0), ref(2))},
		{"while it does something", being(1, heapOf(2, pair(1, 2)), num(1)), with(being(1, heapOf(2, pair(1, 2), pair(-7, 9)), num(1)), ref(1))},
		{"the sixth message", with(being(-1, heapOf(3, dead, pair(1, 2))), fullBox[:5]...),
			with(being(-1, heapOf(3, dead, pair(1, 2), pair(-7, 9))), append(times(5, ref(1)), ref(2))...)},
		{"six messages", with(being(-1, heapOf(9, dead, pair(1, 2))), fullBox...), with(being(-1, heapOf(9, dead, pair(1, 2))), fullBox...)},
		{"six messages, and no room: it is not cleared up", with(being(-1, heapOf(2, dead, pair(1, 2))), fullBox...), with(being(-1, heapOf(2, dead, pair(1, 2))), fullBox...)},
		{"cleared up", with(being(-1, littered(), ref(4)), ref(1)), with(being(-1, swept(pair(-7, 9)), ref(2)), ref(0), ref(3))},
		{"there is room: it is not cleared up", being(-1, heapOf(2, dead)), with(being(-1, heapOf(2, dead, pair(-7, 9))), ref(1))},
		{"no room", being(-1, heapOf(2, dead, object(ref(0))), ref(1)), being(-1, heapOf(2, dead, object(ref(0))), ref(1))},
		{"no room at all", being(-1, heapOf(0)), being(-1, heapOf(0))},
		{"it has ended", ended(being(-1, heapOf(4)), api.Stopped), ended(being(-1, heapOf(4)), api.Stopped)},
	} {
		wantDo(t, c.what, idle, world(c.before), tell(0, -7, 9), world(c.after))
		other := with(being(-1, littered(), ref(4)), ref(1))
		wantDo(t, c.what+", the second one", idle, world(other, child(0, c.before)), tell(1, -7, 9), world(other, child(0, c.after)))
	}
	w := world(being(-1, heapOf(9)))
	wantDo(t, "one that is not there yet", idle, w, tell(1, 1, 1), w)
	wantDo(t, "the outermost numbers", idle, w, tell(0, word, -word), world(with(being(-1, heapOf(9, pair(word, -word))), ref(0))))
}

// An actor ends, and its Parent is told: what that is ahead of it, and behind it.
func TestEnds(t *testing.T) {
	p := program(behind(api.Instr{Op: api.Stop}))
	one := with(being(1, littered(), ref(1), num(3), empty, empty, empty, empty, empty, ref(4)), ref(1), ref(4))
	wantDo(t, "of nobody", p, world(one), step(0), world(ended(one, api.Stopped)))
	other := with(being(-1, heapOf(9, pair(1, 1))), ref(0))
	one.Parent = -1
	wantDo(t, "of nobody, another one is not told", p, world(other, one), step(1), world(other, ended(one, api.Stopped)))
	one.Parent = 1
	for _, c := range []struct {
		what          string
		before, after api.Actor
	}{
		{"the parent is told", being(-1, heapOf(2, dead)), with(being(-1, heapOf(2, dead, pair(2, 1))), ref(1))},
		{"behind its messages", with(being(1, heapOf(9, dead), num(1)), ref(0)), with(being(1, heapOf(9, dead, pair(2, 1)), num(1)), ref(0), ref(1))},
		{"the parent is cleared up", with(being(-1, littered(), ref(4)), ref(1)), with(being(-1, swept(pair(2, 1)), ref(2)), ref(0), ref(3))},
		{"the parent has no room", being(-1, heapOf(1, dead), ref(0)), being(-1, heapOf(1, dead), ref(0))},
		{"the parent has six messages", with(being(-1, heapOf(9, dead)), times(6, ref(0))...), with(being(-1, heapOf(9, dead)), times(6, ref(0))...)},
		{"the parent has ended", ended(being(-1, heapOf(9)), api.NoRef), ended(being(-1, heapOf(9)), api.NoRef)},
	} {
		wantDo(t, c.what, p, world(other, c.before, one), step(2), world(other, c.after, ended(one, api.Stopped)))
	}
}

// Each way in which an actor can end is told to its Parent as it is.
func TestWaysToEnd(t *testing.T) {
	objects := []api.Object{object(num(1), ref(1)), dead}
	for _, c := range []struct {
		way int
		in  api.Instr
	}{
		{api.Stopped, api.Instr{Op: api.Stop}},
		{api.NoInt, api.Instr{Op: api.GetInt, A: 4, B: 0, N: 1}},
		{api.NoRef, api.Instr{Op: api.GetRef, A: 4, B: 0, N: 0}},
		{api.NoField, api.Instr{Op: api.GetRef, A: 4, B: 0, N: 2}},
		{api.NoRoom, api.Instr{Op: api.New, A: 4, N: 1}},
		{api.NoNumber, api.Instr{Op: api.Add, A: 2, B: 2}},
		{api.Broken, api.Instr{Op: api.Print, A: 0}},
		{api.Broken, api.Instr{Op: api.Spawn, A: 4, B: 0}},
	} {
		p := program([]api.Instr{done}, behind(c.in))
		one := child(0, with(being(1, heapOf(2, objects...), ref(0), ref(1), num(word)), ref(0)))
		one.Kind = 1
		parent := being(-1, heapOf(3))
		wantDo(t, told(c.in), p, world(parent, one), step(1),
			world(with(being(-1, heapOf(3, pair(1, c.way))), ref(0)), ended(one, c.way)))
	}
	p := program(behind(api.Instr{Op: api.Spawn, A: 4, B: 0}))
	one := child(0, being(1, heapOf(2, objects...), ref(0)))
	rest := times(6, child(0, being(-1, heapOf(2))))
	wantDo(t, "NoActors", p, world(append([]api.Actor{being(-1, heapOf(3)), one}, rest...)...), step(1),
		world(append([]api.Actor{with(being(-1, heapOf(3, pair(1, api.NoActors))), ref(0)), ended(one, api.NoActors)}, rest...)...))
}

// One that has ended does nothing any more.
func TestEndedStays(t *testing.T) {
	w := world(ended(being(-1, heapOf(5)), api.NoRoom), child(0, being(-1, heapOf(4))))
	w.Actors[0].Regs[2] = num(3)
	for _, a := range []api.Act{step(0), collect(0), tell(0, 1, 2), step(1), step(2), step(7)} {
		wantDo(t, told(a), idle, w, a, w)
	}
	if e := actor.Check(idle, w); e != api.OK {
		t.Error(e)
	}
}
