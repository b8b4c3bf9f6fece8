package actor_test

import (
	"testing"

	"treadwheel/actor"
	"treadwheel/api"
)

func TestTakesMessages(t *testing.T) {
	h := func() api.Heap { return heapOf(4, pair(1, 2), pair(3, 4), dead) }
	for _, c := range []struct {
		what          string
		before, after api.Actor
	}{
		{"none", being(-1, h(), ref(0)), being(-1, h(), ref(0))},
		{"one", with(being(-1, h(), ref(0)), ref(1)), being(0, h(), ref(0), ref(1))},
		{"the first of two", with(being(-1, h(), ref(0)), ref(1), ref(0)), with(being(0, h(), ref(0), ref(1)), ref(0))},
		{"the first of six", with(being(-1, h(), ref(0)), ref(2), ref(1), ref(1), ref(1), ref(1), ref(0)),
			with(being(0, h(), ref(0), ref(2)), ref(1), ref(1), ref(1), ref(1), ref(0))},
		{"the other registers stay", with(being(-1, h(), num(1), num(2), num(3)), ref(1)), being(0, h(), num(1), ref(1), num(3))},
		{"not while it does something", with(being(0, h(), ref(0)), ref(1)), with(being(-1, h(), ref(0)), ref(1))},
	} {
		wantDo(t, c.what, idle, world(c.before), step(0), world(c.after))
	}
}

// bench: an actor with registers of all kinds, that is to do what stands at place 1.
func bench() api.Actor {
	h := heapOf(10, object(num(1), empty), object(ref(0), num(5), empty, ref(2)), dead)
	return with(being(1, h, ref(0), ref(1), num(7), num(9), ref(2), empty, num(word), num(-word)), ref(1))
}

// instructions, and what comes of them in the place of bench: a register that is another one, or a way to end.
var instructions = []struct {
	in  api.Instr
	r   int
	v   api.Value
	way int
}{
	{in: api.Instr{Op: api.Li, A: 5, N: -3}, r: 5, v: num(-3)},
	{in: api.Instr{Op: api.Li, A: 0, N: word}, r: 0, v: num(word)},
	{in: api.Instr{Op: api.Li, A: 4, N: -word}, r: 4, v: num(-word)},
	{in: api.Instr{Op: api.Add, A: 2, B: 3}, r: 2, v: num(16)},
	{in: api.Instr{Op: api.Add, A: 3, B: 3}, r: 3, v: num(18)},
	{in: api.Instr{Op: api.Add, A: 6, B: 7}, r: 6, v: num(0)},
	{in: api.Instr{Op: api.Add, A: 7, B: 2}, r: 7, v: num(7 - word)},
	{in: api.Instr{Op: api.Add, A: 6, B: 2}, way: api.NoNumber},
	{in: api.Instr{Op: api.Add, A: 2, B: 6}, way: api.NoNumber},
	{in: api.Instr{Op: api.Add, A: 6, B: 6}, way: api.NoNumber},
	{in: api.Instr{Op: api.Add, A: 7, B: 7}, way: api.NoNumber},
	{in: api.Instr{Op: api.Sub, A: 2, B: 3}, r: 2, v: num(-2)},
	{in: api.Instr{Op: api.Sub, A: 6, B: 6}, r: 6, v: num(0)},
	{in: api.Instr{Op: api.Sub, A: 6, B: 2}, r: 6, v: num(word - 7)},
	{in: api.Instr{Op: api.Sub, A: 7, B: 2}, way: api.NoNumber},
	{in: api.Instr{Op: api.Sub, A: 2, B: 7}, way: api.NoNumber},
	{in: api.Instr{Op: api.Sub, A: 6, B: 7}, way: api.NoNumber},
	{in: api.Instr{Op: api.Less, A: 2, B: 3}, r: 2, v: num(1)},
	{in: api.Instr{Op: api.Less, A: 3, B: 2}, r: 3, v: num(0)},
	{in: api.Instr{Op: api.Less, A: 2, B: 2}, r: 2, v: num(0)},
	{in: api.Instr{Op: api.Less, A: 7, B: 6}, r: 7, v: num(1)},
	{in: api.Instr{Op: api.Less, A: 6, B: 7}, r: 6, v: num(0)},
	{in: api.Instr{Op: api.GetInt, A: 5, B: 0, N: 0}, r: 5, v: num(1)},
	{in: api.Instr{Op: api.GetInt, A: 1, B: 1, N: 1}, r: 1, v: num(5)},
	{in: api.Instr{Op: api.GetInt, A: 5, B: 0, N: 1}, way: api.NoInt},
	{in: api.Instr{Op: api.GetInt, A: 5, B: 1, N: 0}, way: api.NoInt},
	{in: api.Instr{Op: api.GetInt, A: 5, B: 0, N: 2}, way: api.NoField},
	{in: api.Instr{Op: api.GetInt, A: 5, B: 2, N: 0}, way: api.Broken},
	{in: api.Instr{Op: api.GetInt, A: 5, B: 2, N: 3}, way: api.Broken},
	{in: api.Instr{Op: api.GetInt, A: 5, B: 4, N: 0}, way: api.Broken},
	{in: api.Instr{Op: api.GetInt, A: 5, B: 5, N: 0}, way: api.Broken},
	{in: api.Instr{Op: api.GetRef, A: 5, B: 1, N: 0}, r: 5, v: ref(0)},
	{in: api.Instr{Op: api.GetRef, A: 1, B: 1, N: 0}, r: 1, v: ref(0)},
	{in: api.Instr{Op: api.GetRef, A: 5, B: 1, N: 3}, r: 5, v: ref(2)},
	{in: api.Instr{Op: api.GetRef, A: 5, B: 1, N: 1}, way: api.NoRef},
	{in: api.Instr{Op: api.GetRef, A: 5, B: 1, N: 2}, way: api.NoRef},
	{in: api.Instr{Op: api.GetRef, A: 5, B: 0, N: 3}, way: api.NoField},
	{in: api.Instr{Op: api.GetRef, A: 5, B: 4, N: 0}, way: api.Broken},
	{in: api.Instr{Op: api.GetRef, A: 5, B: 3, N: 0}, way: api.Broken},
	{in: api.Instr{Op: api.Move, A: 5, B: 2}, r: 5, v: num(7)},
	{in: api.Instr{Op: api.Move, A: 2, B: 1}, r: 2, v: ref(1)},
	{in: api.Instr{Op: api.Move, A: 0, B: 4}, r: 0, v: ref(2)},
	{in: api.Instr{Op: api.Move, A: 0, B: 5}, r: 0, v: empty},
	{in: api.Instr{Op: api.Move, A: 1, B: 1}, r: 1, v: ref(1)},
	{in: api.Instr{Op: api.Self, A: 0}, r: 0, v: num(0)},
	{in: api.Instr{Op: api.Self, A: 5}, r: 5, v: num(0)},
	{in: api.Instr{Op: api.Drop, A: 1}, r: 1, v: empty},
	{in: api.Instr{Op: api.Drop, A: 4}, r: 4, v: empty},
	{in: api.Instr{Op: api.Drop, A: 5}, r: 5, v: empty},
	{in: api.Instr{Op: api.Drop, A: 6}, r: 6, v: empty},
	{in: api.Instr{Op: api.Stop}, way: api.Stopped},
}

func TestInstructions(t *testing.T) {
	for _, c := range instructions {
		after := bench()
		if c.way == api.Lives {
			after.Pc = 2
			after.Regs[c.r] = c.v
		} else {
			after = ended(after, c.way)
		}
		wantDo(t, told(c.in), program(behind(c.in)), world(bench()), step(0), world(after))
	}
}

// Registers of all other kinds where there must be numbers.
func TestNoNumbers(t *testing.T) {
	for _, r := range []int{0, 1, 4, 5} {
		for _, in := range []api.Instr{
			{Op: api.Add, A: r, B: 2}, {Op: api.Add, A: 2, B: r}, {Op: api.Add, A: r, B: r},
			{Op: api.Sub, A: r, B: 2}, {Op: api.Sub, A: 2, B: r}, {Op: api.Sub, A: r, B: r},
			{Op: api.Less, A: r, B: 2}, {Op: api.Less, A: 2, B: r}, {Op: api.Less, A: r, B: r},
			{Op: api.Jz, A: r, N: 2}, {Op: api.Print, A: r},
			{Op: api.PutInt, A: 0, B: r, N: 0}, {Op: api.Send, A: 0, B: r}, {Op: api.Copy, A: 0, B: r},
		} {
			wantDo(t, told(in), program(behind(in)), world(bench()), step(0), world(ended(bench(), api.Broken)))
		}
	}
}

// Registers of all other kinds where there must be objects.
func TestNoObjects(t *testing.T) {
	for _, r := range []int{2, 3, 5, 6, 7} {
		for _, in := range []api.Instr{
			{Op: api.GetInt, A: 3, B: r}, {Op: api.GetRef, A: 3, B: r}, {Op: api.PutInt, A: r, B: 2}, {Op: api.PutRef, A: r, B: 0},
			{Op: api.PutRef, A: 0, B: r}, {Op: api.Send, A: r, B: 2}, {Op: api.Copy, A: r, B: 2}, {Op: api.Spawn, A: 3, B: r},
		} {
			wantDo(t, told(in), program(behind(in)), world(bench()), step(0), world(ended(bench(), api.Broken)))
		}
	}
}

func TestPut(t *testing.T) {
	for _, c := range []struct {
		in    api.Instr
		place int
		way   int
	}{
		{in: api.Instr{Op: api.PutInt, A: 0, B: 2, N: 0}, place: 0},
		{in: api.Instr{Op: api.PutInt, A: 0, B: 6, N: 1}, place: 0},
		{in: api.Instr{Op: api.PutInt, A: 1, B: 7, N: 3}, place: 1},
		{in: api.Instr{Op: api.PutRef, A: 0, B: 1, N: 1}, place: 0},
		{in: api.Instr{Op: api.PutRef, A: 1, B: 1, N: 1}, place: 1},
		{in: api.Instr{Op: api.PutRef, A: 1, B: 4, N: 2}, place: 1}, // dead, and yet it may be put
		{in: api.Instr{Op: api.PutInt, A: 0, B: 2, N: 2}, way: api.NoField},
		{in: api.Instr{Op: api.PutRef, A: 0, B: 1, N: 3}, way: api.NoField},
		{in: api.Instr{Op: api.PutInt, A: 0, B: 5, N: 2}, way: api.NoField}, // what B is is asked last
		{in: api.Instr{Op: api.PutRef, A: 0, B: 5, N: 2}, way: api.NoField},
		{in: api.Instr{Op: api.PutInt, A: 0, B: 0, N: 2}, way: api.NoField},
		{in: api.Instr{Op: api.PutInt, A: 4, B: 2, N: 0}, way: api.Broken},
		{in: api.Instr{Op: api.PutRef, A: 4, B: 4, N: 0}, way: api.Broken},
		{in: api.Instr{Op: api.PutRef, A: 0, B: 2, N: 0}, way: api.Broken},
		{in: api.Instr{Op: api.PutInt, A: 0, B: 1, N: 0}, way: api.Broken},
		{in: api.Instr{Op: api.PutInt, A: 0, B: 4, N: 0}, way: api.Broken},
		{in: api.Instr{Op: api.PutInt, A: 2, B: 2, N: 3}, way: api.Broken}, // no object ahead of no field
	} {
		after := bench()
		if c.way == api.Lives {
			after.Pc = 2
			after.Heap.Objects[c.place].Fields[c.in.N] = after.Regs[c.in.B]
		} else {
			after = ended(after, c.way)
		}
		wantDo(t, told(c.in), program(behind(c.in)), world(bench()), step(0), world(after))
	}
}

func TestJumps(t *testing.T) {
	for _, c := range []struct {
		op, r, n, to int
	}{
		{api.Jmp, 0, 1, 2}, {api.Jmp, 0, 0, 1}, {api.Jmp, 0, -1, 0}, {api.Jmp, 0, 3, 4},
		{api.Jz, 3, 1, 2}, {api.Jz, 3, 0, 1}, {api.Jz, 3, -1, 0}, {api.Jz, 3, 3, 4},
		{api.Jz, 2, 1, 2}, {api.Jz, 2, 0, 2}, {api.Jz, 2, -1, 2}, {api.Jz, 2, 3, 2},
		{api.Jz, 4, 3, 2}, {api.Jz, 4, -1, 2},
	} {
		regs := []api.Value{empty, empty, num(1), num(0), num(-1)}
		p := program(behind(api.Instr{Op: c.op, A: c.r, N: c.n}))
		wantDo(t, told(c), p, world(being(1, heapOf(2), regs...)), step(0), world(being(c.to, heapOf(2), regs...)))
	}
}

func TestDone(t *testing.T) {
	for _, state := range []api.Value{ref(0), ref(1), ref(2)} {
		before, after := bench(), bench()
		before.Regs[0] = state
		after.Regs, after.Pc = make([]api.Value, 8), -1
		after.Regs[0] = state
		wantDo(t, "Done", program(behind(done)), world(before), step(0), world(after))
	}
	for _, state := range []api.Value{num(0), num(1), empty} {
		before := bench()
		before.Regs[0] = state
		wantDo(t, "Done without a state", program(behind(done)), world(before), step(0), world(ended(before, api.Broken)))
	}
}

func TestPrint(t *testing.T) {
	p := program(behind(api.Instr{Op: api.Print, A: 6}))
	after := bench()
	after.Pc = 2
	for _, c := range []struct{ before, after int }{{0, 1}, {1, 2}, {498, 499}, {499, 500}, {500, 500}} {
		before, behind := world(bench(), child(0, bench())), world(bench(), child(0, after))
		before.Prints = times(c.before, api.Told{Actor: 0, N: 3})
		behind.Prints = append(times(c.before, api.Told{Actor: 0, N: 3}), api.Told{Actor: 1, N: word})[:c.after]
		wantDo(t, "Print", p, before, step(1), behind)
	}
}

func TestSelf(t *testing.T) {
	p := program(behind(api.Instr{Op: api.Self, A: 0}))
	for n := range 8 {
		before, after := world(times(8, bench())...), world(times(8, bench())...)
		one := bench()
		one.Regs[0], one.Pc = num(n), 2
		after.Actors[n] = one
		wantDo(t, "Self", p, before, step(n), after)
	}
}

func TestNewObject(t *testing.T) {
	for fields := 1; fields <= 4; fields++ {
		for r := range 8 {
			after := bench()
			after.Heap.Objects = append(after.Heap.Objects, object(make([]api.Value, fields)...))
			after.Regs[r], after.Pc = ref(3), 2
			wantDo(t, "New", program(behind(api.Instr{Op: api.New, A: r, N: fields})), world(bench()), step(0), world(after))
		}
	}
	p := program(behind(api.Instr{Op: api.New, A: 2, N: 1}))
	made := object(empty)
	for _, c := range []struct {
		what          string
		before, after api.Actor
	}{
		{"the last that there is room for", being(1, heapOf(2, dead)), being(2, heapOf(2, dead, made), empty, empty, ref(1))},
		{"cleared up", with(being(1, littered(), ref(4)), ref(1)), with(being(2, swept(made), ref(2), empty, ref(3)), ref(0))},
		{"the old one of the register is kept by clearing up", being(1, heapOf(2, pair(1, 2), pair(3, 4)), empty, empty, ref(1)),
			being(2, heapOf(2, pair(3, 4), made), empty, empty, ref(1))},
	} {
		wantDo(t, c.what, p, world(c.before), step(0), world(c.after))
	}
	for _, full := range []api.Actor{
		being(1, heapOf(1, pair(1, 2)), ref(0)),
		being(1, heapOf(1, pair(1, 2)), empty, empty, ref(0)),
		with(being(1, heapOf(1, pair(1, 2))), ref(0)),
		being(1, heapOf(2, object(ref(1)), dead), ref(0)),
		being(1, heapOf(0)),
	} {
		wantDo(t, "no room", p, world(full), step(0), world(ended(full, api.NoRoom)))
	}
}

// What the document says of the whole, and a longer one: an actor that counts down, and tells of it.
func TestWhole(t *testing.T) {
	p := program([]api.Instr{
		{Op: api.GetInt, A: 2, B: 1, N: 0},
		{Op: api.Li, A: 3, N: 1},
		{Op: api.Jz, A: 2, N: 4},
		{Op: api.Print, A: 2},
		{Op: api.Sub, A: 2, B: 3},
		{Op: api.Jmp, N: -3},
		{Op: api.PutInt, A: 0, B: 3, N: 1},
		done,
	})
	l := append([]api.Act{tell(0, 3, 0), tell(0, 2, 0)}, times(40, step(0))...)
	w := world(being(-1, heapOf(4, pair(0, 1), pair(3, 0), pair(2, 0)), ref(0)))
	for _, n := range []int{3, 2, 1, 2, 1} {
		w.Prints = append(w.Prints, api.Told{N: n})
	}
	want(t, "countdown", all(actor.Run(p, 4, l)), all(w, api.OK))
}
