package actor_test

import (
	"testing"

	"treadwheel/api"
)

var sendTo = api.Instr{Op: api.Send, A: 2, B: 3}

var copyTo = api.Instr{Op: api.Copy, A: 2, B: 3}

// chain: object 3 leads to 1, that to 3 and 4; the objects 0 and 2 are not led to.
func chain() api.Heap {
	return heapOf(9, object(num(0)), object(ref(3), ref(4), num(1)), dead, object(num(3), ref(1)), object(ref(4), empty))
}

// chained: what comes of it in another heap, from that place on.
func chained(n int) []api.Object {
	return []api.Object{object(num(3), ref(n+1)), object(ref(n), ref(n+2), num(1)), object(ref(n+2), empty)}
}

// sender of the chain to an actor.
func sender(to int) api.Actor {
	return with(being(1, chain(), ref(0), ref(1), ref(3), num(to), ref(2)), ref(4))
}

// sent: as it is behind Send, or behind Copy; left: whether the chain is still there.
func sent(to int, op int, left bool) api.Actor {
	a := sender(to)
	a.Pc = 2
	if op == api.Send {
		a.Regs[2] = empty
	}
	if !left {
		a.Heap = heapOf(9, object(num(0)), dead, dead, dead, dead)
	}
	return a
}

// receivers, ahead of the chain and behind it; comes: whether it came there.
var receivers = []struct {
	what          string
	before, after api.Actor
	comes         bool
}{
	{"an empty heap", being(-1, heapOf(3)), with(being(-1, heapOf(3, chained(0)...)), ref(0)), true},
	{"behind all", with(being(1, heapOf(5, pair(1, 2), dead), ref(1)), ref(0)),
		with(being(1, heapOf(5, append([]api.Object{pair(1, 2), dead}, chained(2)...)...), ref(1)), ref(0), ref(2)), true},
	{"the sixth message", with(being(-1, heapOf(4, dead)), times(5, ref(0))...),
		with(being(-1, heapOf(4, append([]api.Object{dead}, chained(1)...)...)), append(times(5, ref(0)), ref(1))...), true},
	{"six messages", with(being(-1, heapOf(60, dead, dead)), times(6, ref(1))...), with(being(-1, heapOf(60, dead, dead)), times(6, ref(1))...), false},
	{"six messages, and no room: it is not cleared up", with(being(-1, heapOf(2, dead, dead)), times(6, ref(1))...), with(being(-1, heapOf(2, dead, dead)), times(6, ref(1))...), false},
	{"cleared up", with(being(-1, heapOf(5, pair(1, 1), object(num(2)), dead, object(ref(1))), empty, ref(3))),
		with(being(-1, heapOf(5, append([]api.Object{object(num(2)), object(ref(0))}, chained(2)...)...), empty, ref(1)), ref(2)), true},
	{"cleared up, and yet no room", with(being(-1, heapOf(4, pair(1, 1), object(num(2)), dead, object(ref(1)))), ref(3)),
		with(being(-1, heapOf(4, object(num(2)), object(ref(0)))), ref(1)), false},
	{"no room", being(-1, heapOf(2)), being(-1, heapOf(2)), false},
	{"there is room: it is not cleared up", being(-1, heapOf(4, dead)), with(being(-1, heapOf(4, append([]api.Object{dead}, chained(1)...)...)), ref(1)), true},
	{"ended", ended(being(-1, heapOf(9)), api.NoInt), ended(being(-1, heapOf(9)), api.NoInt), false},
}

func TestSendAndCopy(t *testing.T) {
	for _, in := range []api.Instr{sendTo, copyTo} {
		p := program(behind(in))
		for _, c := range receivers {
			left := in.Op == api.Copy || !c.comes
			wantDo(t, told(in, c.what), p, world(sender(1), c.before), step(0), world(sent(1, in.Op, left), c.after))
			wantDo(t, told(in, c.what, "back"), p, world(c.before, child(0, sender(0))), step(1), world(c.after, child(0, sent(0, in.Op, left))))
		}
		for _, to := range []int{-1, 1, 2, 8, word, -word} {
			wantDo(t, told(in, to, "nobody"), p, world(sender(to)), step(0), world(sent(to, in.Op, true)))
		}
	}
}

// Only what is sent is moved, and only dead things that it leads to count.
func TestSendAPart(t *testing.T) {
	p := program(behind(sendTo))
	part := sender(1)
	part.Regs[2] = ref(4)
	after := sent(1, api.Send, true)
	after.Heap.Objects[4] = dead
	wantDo(t, "a part", p, world(part, being(-1, heapOf(1))), step(0), world(after, with(being(-1, heapOf(1, object(ref(0), empty))), ref(0))))
}

func TestSendToItself(t *testing.T) {
	p := program(behind(sendTo))
	full := sender(0)
	full.Heap.Most = 5
	after := sent(0, api.Send, true)
	after.Heap.Most = 5
	after.Box = []api.Value{ref(4), ref(3)}
	wantDo(t, "it is the message, without room", p, world(full), step(0), world(after))
	full.Box, after.Box = times(5, ref(1)), append(times(5, ref(1)), ref(3))
	wantDo(t, "the sixth message", p, world(full), step(0), world(after))
	full.Box, after.Box = times(6, ref(1)), times(6, ref(1))
	wantDo(t, "six messages", p, world(full), step(0), world(after))
}

func TestCopyToItself(t *testing.T) {
	p := program(behind(copyTo))
	for _, c := range []struct {
		what          string
		before, after api.Actor
	}{
		{"room", being(1, heapOf(5, dead, object(num(1)), object(ref(1))), empty, empty, ref(2), num(0)),
			with(being(2, heapOf(5, dead, object(num(1)), object(ref(1)), object(ref(4)), object(num(1))), empty, empty, ref(2), num(0)), ref(3))},
		{"cleared up: the register is another one then", being(1, heapOf(4, dead, object(num(1)), object(ref(1))), empty, empty, ref(2), num(0)),
			with(being(2, heapOf(4, object(num(1)), object(ref(0)), object(ref(3)), object(num(1))), empty, empty, ref(1), num(0)), ref(2))},
		{"cleared up, and yet no room", being(1, heapOf(3, dead, object(num(1)), object(ref(1))), empty, empty, ref(2), num(0)),
			being(2, heapOf(3, object(num(1)), object(ref(0))), empty, empty, ref(1), num(0))},
		{"six messages", with(being(1, heapOf(9, dead, object(num(1)), object(ref(1))), empty, empty, ref(2), num(0)), times(6, ref(0))...),
			with(being(2, heapOf(9, dead, object(num(1)), object(ref(1))), empty, empty, ref(2), num(0)), times(6, ref(0))...)},
	} {
		wantDo(t, c.what, p, world(c.before), step(0), world(c.after))
	}
}

// Whatever is dead of that which is sent breaks the sender, wherever it was to go.
func TestSendDead(t *testing.T) {
	for _, in := range []api.Instr{sendTo, copyTo} {
		p := program(behind(in))
		for _, to := range []int{-1, 0, 1, 2, 3} {
			for _, h := range []api.Heap{
				heapOf(9, dead),
				heapOf(9, object(num(1), ref(1)), dead),
				heapOf(9, object(ref(1), ref(0)), object(ref(2)), object(empty, ref(3)), dead),
			} {
				one := being(1, h, empty, empty, ref(0), num(to))
				gone := ended(being(-1, heapOf(4)), api.Stopped)
				other := with(being(-1, heapOf(9, dead)), times(5+to%2, ref(0))...)
				wantDo(t, told(in, to), p, world(one, gone, other), step(0), world(ended(one, api.Broken), gone, other))
			}
		}
	}
}

// Neither is one register an object and a number, nor does Send or Copy take anything else.
func TestSendOfOneRegister(t *testing.T) {
	for _, op := range []int{api.Send, api.Copy} {
		for r := range 8 {
			p := program(behind(api.Instr{Op: op, A: r, B: r}))
			wantDo(t, told(op, r), p, world(bench()), step(0), world(ended(bench(), api.Broken)))
		}
	}
}

func TestSpawn(t *testing.T) {
	for _, a := range []int{0, 2, 3, 7} {
		for kind := range 3 {
			for count := 1; count <= 7; count++ {
				p := program(behind(api.Instr{Op: api.Spawn, A: a, B: 2, N: kind}), []api.Instr{done}, []api.Instr{done})
				who := count / 2
				before, after := times(count, child(-1, sender(4))), times(count, child(-1, sender(4)))
				after[who] = sent(4, api.Send, false)
				after[who].Regs[a] = num(count)
				born := child(who, being(-1, heapOf(9, chained(0)...), ref(0)))
				born.Kind = kind
				wantDo(t, told("Spawn", a, kind, count), p, world(before...), step(who), world(append(after, born)...))
			}
		}
	}
}

// A heap that is full of the new actor's state has room for it, and so has the new one.
func TestSpawnOfAllThereIs(t *testing.T) {
	p := program(behind(api.Instr{Op: api.Spawn, A: 1, B: 2}))
	one := being(1, heapOf(2, object(ref(1)), object(ref(0))), ref(0), empty, ref(1))
	after := being(2, heapOf(2, dead, dead), ref(0), num(1))
	wantDo(t, "Spawn", p, world(one), step(0), world(after, child(0, being(-1, heapOf(2, object(ref(1)), object(ref(0))), ref(0)))))
}

func TestSpawnEnds(t *testing.T) {
	p := program(behind(api.Instr{Op: api.Spawn, A: 2, B: 2}))
	fine := being(1, heapOf(9, object(num(1))), empty, empty, ref(0))
	gone := being(1, heapOf(9, dead), empty, empty, ref(0))
	half := being(1, heapOf(9, object(empty, ref(1)), object(ref(0), ref(2)), dead), empty, empty, ref(0))
	none := being(1, heapOf(9, object(num(1))), ref(0), empty, num(0))
	for _, c := range []struct {
		what   string
		a      api.Actor
		others int
		way    int
	}{
		{"eight actors", fine, 7, api.NoActors},
		{"eight actors ahead of a dead one", gone, 7, api.NoActors},
		{"eight actors ahead of something dead", half, 7, api.NoActors},
		{"no object ahead of eight actors", none, 7, api.Broken},
		{"a dead one", gone, 6, api.Broken},
		{"something dead", half, 0, api.Broken},
		{"no object", none, 3, api.Broken},
	} {
		others := times(c.others, ended(being(-1, heapOf(3)), api.Stopped)) // they count, though they have ended
		wantDo(t, c.what, p, world(append([]api.Actor{c.a}, others...)...), step(0), world(append([]api.Actor{ended(c.a, c.way)}, others...)...))
	}
}
