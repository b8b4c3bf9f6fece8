package actor_test

import (
	"math"
	"testing"

	"treadwheel/actor"
	"treadwheel/api"
)

// acts, and what is refused of them.
var acts = []struct {
	a api.Act
	e api.Errno
}{
	{api.Act{Kind: api.Step}, api.OK},
	{api.Act{Kind: api.Collect}, api.OK},
	{api.Act{Kind: api.Tell}, api.OK},
	{api.Act{Kind: 0}, api.ErrKind},
	{api.Act{Kind: 4}, api.ErrKind},
	{api.Act{Kind: -1}, api.ErrKind},
	{api.Act{Kind: math.MaxInt}, api.ErrKind},
	{api.Act{Kind: math.MinInt, Actor: -1}, api.ErrKind},
	{api.Act{Kind: 0, Actor: 8, N: word + 1}, api.ErrKind},
	{api.Act{Kind: api.Step, Actor: 7}, api.OK},
	{api.Act{Kind: api.Step, Actor: 8}, api.ErrRange},
	{api.Act{Kind: api.Step, Actor: -1}, api.ErrRange},
	{api.Act{Kind: api.Collect, Actor: 8}, api.ErrRange},
	{api.Act{Kind: api.Collect, Actor: math.MinInt}, api.ErrRange},
	{api.Act{Kind: api.Tell, Actor: -1}, api.ErrRange},
	{api.Act{Kind: api.Tell, Actor: math.MaxInt}, api.ErrRange},
	{api.Act{Kind: api.Tell, N: word, M: -word}, api.OK},
	{api.Act{Kind: api.Tell, N: -word, M: word}, api.OK},
	{api.Act{Kind: api.Tell, N: word + 1}, api.ErrRange},
	{api.Act{Kind: api.Tell, N: -word - 1}, api.ErrRange},
	{api.Act{Kind: api.Tell, M: word + 1}, api.ErrRange},
	{api.Act{Kind: api.Tell, M: -word - 1}, api.ErrRange},
	{api.Act{Kind: api.Tell, Actor: 7, M: math.MinInt}, api.ErrRange},
	{api.Act{Kind: api.Step, N: word + 1}, api.ErrRange},
	{api.Act{Kind: api.Step, N: -word, M: word}, api.OK},
	{api.Act{Kind: api.Collect, M: -word - 1}, api.ErrRange},
	{api.Act{Kind: api.Collect, N: math.MaxInt}, api.ErrRange},
}

func TestDoRefuses(t *testing.T) {
	w, _ := actor.New(idle, 4)
	for _, c := range acts {
		got, e := actor.Do(idle, w, c.a)
		if e != c.e || e != api.OK && told(got) != told(world()) {
			t.Errorf("Do(%+v): %+v, %d, want %d", c.a, got, e, c.e)
		}
		want(t, told("Do in a world that may not be", c.a), all(actor.Do(idle, world(), c.a)), all(world(), api.ErrState))
	}
}

func TestRunRefuses(t *testing.T) {
	kind, reach := api.Act{Kind: 4}, api.Act{Kind: api.Step, Actor: 8}
	for _, c := range acts {
		got, e := actor.Run(idle, 4, []api.Act{tell(0, 1, 2), c.a, step(0)})
		if e != c.e || e != api.OK && told(got) != told(world()) {
			t.Errorf("Run, %+v: %+v, %d, want %d", c.a, got, e, c.e)
		}
	}
	for _, c := range []struct {
		what string
		most int
		l    []api.Act
		e    api.Errno
	}{
		{"no room for a world", 1, nil, api.ErrRange},
		{"that ahead of all", 61, times(3001, kind), api.ErrRange},
		{"too many", 2, times(3001, step(0)), api.ErrSize},
		{"too many ahead of what Do refuses", 2, times(3001, kind), api.ErrSize},
		{"the first one that is refused", 2, []api.Act{kind, reach}, api.ErrKind},
		{"the first one, the other way round", 2, []api.Act{step(0), reach, kind}, api.ErrRange},
		{"the last one", 2, append(times(2999, step(0)), reach), api.ErrRange},
	} {
		want(t, c.what, all(actor.Run(idle, c.most, c.l)), all(world(), c.e))
	}
}

// As many acts as may be, and as many prints.
func TestRunLong(t *testing.T) {
	p := program([]api.Instr{{Op: api.Self, A: 2}, {Op: api.Print, A: 2}, {Op: api.Jmp, N: -1}})
	w := world(being(2, heapOf(2, pair(0, 0), pair(8, 9)), ref(0), ref(1), num(0)))
	w.Prints = times(500, api.Told{})
	want(t, "3000 acts", all(actor.Run(p, 2, append([]api.Act{tell(0, 8, 9)}, times(2999, step(0))...))), all(w, api.OK))
}

// Two behaviors: one that begins another with each message, and sends it what it was told; one that stops then.
func TestRunOfSeveral(t *testing.T) {
	p := program(
		[]api.Instr{
			{Op: api.New, A: 2, N: 1},
			{Op: api.Spawn, A: 3, B: 2, N: 1},
			{Op: api.Send, A: 1, B: 3},
			done,
		},
		[]api.Instr{
			{Op: api.GetInt, A: 2, B: 1, N: 1},
			{Op: api.Print, A: 2},
			{Op: api.Stop},
		})
	l := append([]api.Act{tell(0, 5, 6)}, times(5, step(0))...)
	second := child(0, with(being(-1, heapOf(4, object(empty), pair(5, 6)), ref(0)), ref(1)))
	second.Kind = 1
	first := being(-1, heapOf(4, pair(0, 0), dead, dead), ref(0))
	want(t, "begun", all(actor.Run(p, 4, l)), all(world(first, second), api.OK))
	l = append(l, times(4, step(1))...)
	first.Heap.Objects = append(first.Heap.Objects, pair(1, api.Stopped))
	first.Box = []api.Value{ref(3)}
	w := world(first, ended(second, api.Stopped))
	w.Prints = []api.Told{{Actor: 1, N: 6}}
	want(t, "ended", all(actor.Run(p, 4, l)), all(w, api.OK))
	l = append(l, collect(0), step(1), collect(1), tell(1, 1, 1), tell(2, 1, 1))
	w.Actors[0].Heap.Objects = []api.Object{pair(0, 0), pair(1, api.Stopped)}
	w.Actors[0].Box[0] = ref(1)
	want(t, "cleared up", all(actor.Run(p, 4, l)), all(w, api.OK))
}
