package actor_test

import (
	"math"
	"testing"

	"treadwheel/actor"
	"treadwheel/api"
	"treadwheel/verify"
)

// dice: numbers that look drawn, the same each time.
type dice uint64

// below: from 0 to below most.
func (d *dice) below(most int) int {
	*d = *d*6364136223846793005 + 1442695040888963407
	return int(uint64(*d>>20) % uint64(most))
}

// instr that may be at that place, with one of so many registers.
func (d *dice) instr(place, length, kinds, regs int) api.Instr {
	in := api.Instr{Op: d.below(20), A: d.below(regs), B: d.below(regs)}
	switch in.Op {
	case api.Done, api.Stop:
		in.A, in.B = 0, 0
		if d.below(4) > 0 {
			in.Op = api.Done
		}
	case api.Jmp:
		in.A, in.B, in.N = 0, 0, d.below(length)-place
	case api.Jz:
		in.B, in.N = 0, d.below(length)-place
	case api.Li:
		in.B, in.N = 0, []int{d.below(9), word - d.below(2), d.below(2) - word, 0}[d.below(4)]
	case api.New:
		in.B, in.N = 0, 1+d.below(4)
	case api.GetInt, api.PutInt, api.GetRef, api.PutRef:
		in.N = d.below(4) >> d.below(2)
	case api.Spawn:
		in.N = d.below(kinds)
	case api.Print, api.Self, api.Drop:
		in.B = 0
	}
	return in
}

// fitting: mostly with objects from the first four registers, and numbers from the last ones, so that not all ends at once.
func (d *dice) fitting(in api.Instr) api.Instr {
	if d.below(8) == 0 {
		return in
	}
	switch in.Op {
	case api.Send, api.Copy, api.PutInt:
		in.A, in.B = in.A%4, 4+in.B%4
	case api.Add, api.Sub, api.Less:
		in.A, in.B = 4+in.A%4, 4+in.B%4
	case api.Jz, api.Print, api.Li, api.Self:
		in.A = 4 + in.A%4
	case api.GetInt, api.Spawn:
		in.A, in.B = 4+in.A%4, in.B%4
	case api.GetRef, api.PutRef:
		in.A, in.B = in.A%4, in.B%4
	case api.New, api.Drop:
		in.A %= 4
	case api.Move:
		in.B = in.A/4*4 + in.B%4
	}
	return in
}

// wild program: nobody comes to what stands behind its first instructions, so that it is verified, whatever it does.
func (d *dice) wild() api.Program {
	p := api.Program{Kinds: make([][]api.Instr, 1+d.below(4))}
	for k := range p.Kinds {
		length := 3 + d.below(12)
		p.Kinds[k] = append(p.Kinds[k], done)
		for place := 1; place < length-1; place++ {
			p.Kinds[k] = append(p.Kinds[k], d.fitting(d.instr(place, length, len(p.Kinds), 8)))
		}
		p.Kinds[k] = append(p.Kinds[k], done)
	}
	return p
}

// good program: of what is drawn that which may not be done is left out.
func (d *dice) good() api.Program {
	p := api.Program{Kinds: [][]api.Instr{{done}, {done}, {done}}}
	for k := range p.Kinds {
		for range 10 + d.below(40) {
			old := p.Kinds[k]
			last := len(old) - 1
			in := d.instr(last, last+1, len(p.Kinds), 4+d.below(5))
			if (in.Op == api.Done || in.Op == api.Stop || in.Op == api.Jmp) && d.below(8) > 0 {
				continue
			}
			p.Kinds[k] = append(append([]api.Instr{}, old[:last]...), in, done)
			if _, _, e := verify.Check(p); e != api.OK {
				p.Kinds[k] = old
			}
		}
	}
	return p
}

// value of a heap with so many objects.
func (d *dice) value(objects int) api.Value {
	switch k := d.below(8); {
	case k == 0:
		return empty
	case k == 1:
		return num([]int{word, -word, word - 1, 0}[d.below(4)])
	case k < 4 || objects == 0:
		return num(d.below(10) - 1)
	}
	return ref(d.below(objects))
}

// being that may be, of that number, in a world with so many behaviors (its place is set elsewhere).
func (d *dice) being(number, kinds int) api.Actor {
	a := api.Actor{Kind: d.below(kinds), Parent: d.below(number+1) - 1, Pc: -1, Regs: make([]api.Value, 8)}
	a.Heap.Most = d.below(61) >> (1 + d.below(4))
	if d.below(6) == 0 {
		a.End = 1 + d.below(8)
		return a
	}
	a.Heap.Objects = make([]api.Object, a.Heap.Most-d.below(a.Heap.Most+1)>>d.below(6))
	for i := range a.Heap.Objects {
		if d.below(12) == 0 {
			a.Heap.Objects[i].Dead = true
			continue
		}
		for range 1 + d.below(4) {
			a.Heap.Objects[i].Fields = append(a.Heap.Objects[i].Fields, d.value(len(a.Heap.Objects)))
		}
	}
	for r := range a.Regs {
		switch k := d.below(9); {
		case k == 0:
			a.Regs[r] = d.value(len(a.Heap.Objects))
		case r >= 4:
			a.Regs[r] = num([]int{d.below(10) - 1, d.below(3), word, -word}[d.below(12)/3])
		case k > 1 && len(a.Heap.Objects) > 0:
			a.Regs[r] = ref(d.below(len(a.Heap.Objects)))
		}
	}
	for range d.below(7) {
		if len(a.Heap.Objects) > 0 {
			a.Box = append(a.Box, ref(d.below(len(a.Heap.Objects))))
		}
	}
	return a
}

// world that may be.
func (d *dice) world(p api.Program) api.World {
	w := api.World{Prints: make([]api.Told, d.below(3))}
	if d.below(30) == 0 {
		w.Prints = make([]api.Told, 498+d.below(3))
	}
	for i := range 8 - d.below(8) {
		a := d.being(i, len(p.Kinds))
		if a.End == api.Lives && d.below(5) > 0 {
			a.Pc = d.below(len(p.Kinds[a.Kind]))
		}
		w.Actors = append(w.Actors, a)
	}
	return w
}

func (d *dice) act() api.Act {
	kind := []int{api.Step, api.Step, api.Step, api.Step, api.Step, api.Step, api.Collect, api.Tell}[d.below(8)]
	return api.Act{Kind: kind, Actor: d.below(8) >> d.below(4), N: d.below(5), M: d.below(5) - 2}
}

// script of acts, as many or twice as many.
func (d *dice) script(least int) []api.Act {
	l := make([]api.Act, least+d.below(least))
	for i := range l {
		l[i] = d.act()
	}
	return l
}

// Acts in worlds of all sorts, against the second working-out.
func TestDrawnActs(t *testing.T) {
	d := dice(1)
	var ways [9]int
	for range 4000 {
		p := d.wild()
		w := d.world(p)
		if e := actor.Check(p, w); e != api.OK {
			t.Fatalf("Check(%v, %+v): %d", p, w, e)
		}
		s := staged(p, w)
		for range 6 {
			a := d.act()
			s.act(a)
			next, e := actor.Do(p, w, a)
			if e != api.OK || told(next) != told(s.world()) {
				t.Fatalf("Do(%v, %+v, %+v):\n got %+v, %d\nwant %+v", p, w, a, next, e, s.world())
			}
			if a.Actor < len(w.Actors) && w.Actors[a.Actor].End != next.Actors[a.Actor].End {
				ways[next.Actors[a.Actor].End]++
			}
			w = next
		}
		if e := actor.Check(p, w); e != api.OK {
			t.Fatalf("what comes of %v may not be: %d, %+v", p, e, w)
		}
	}
	for way := api.Stopped; way <= api.Broken; way++ {
		if ways[way] < 20 {
			t.Errorf("too few of one sort to tell anything: %v", ways)
		}
	}
}

// Scripts of verified programs, against the second working-out; none of their actors ever breaks.
func TestDrawnScripts(t *testing.T) {
	d := dice(2)
	var ways [9]int
	most := 0
	for range 2000 {
		p, l, room := d.good(), d.script(150), 2+d.below(59)>>d.below(5)
		first, _ := actor.New(p, room)
		s := staged(p, first)
		for _, a := range l {
			s.act(a)
		}
		w, e := actor.Run(p, room, l)
		if e != api.OK || told(w) != told(s.world()) {
			t.Fatalf("Run(%v, %d, %v):\n got %+v, %d\nwant %+v", p, room, l, w, e, s.world())
		}
		want(t, "Check of what comes of it", all(actor.Check(p, w)), all(api.OK))
		for _, a := range w.Actors {
			ways[a.End]++
		}
		most = max(most, len(w.Actors))
	}
	if ways[api.Broken] != 0 {
		t.Errorf("a verified program's actor breaks: %v", ways)
	}
	if ways[api.Lives] < 100 || ways[api.Stopped] < 20 || ways[api.NoRoom] < 20 || most < 8 {
		t.Errorf("too few of one sort to tell anything: %v, %d actors", ways, most)
	}
}

// Run does acts as Do does them, one by one.
func TestDrawnRunIsDo(t *testing.T) {
	d := dice(3)
	for range 60 {
		p, l, room := d.good(), d.script(60), 2+d.below(20)
		w, _ := actor.New(p, room)
		for _, a := range l {
			w, _ = actor.Do(p, w, a)
		}
		want(t, "Run", all(actor.Run(p, room, l)), all(w, api.OK))
	}
}

// tidy: a world all of whose heaps are cleared up.
func tidy(p api.Program, w api.World) api.World {
	for i := range w.Actors {
		w, _ = actor.Do(p, w, collect(i))
	}
	return w
}

// Nobody sees anything of it when heaps are cleared up, and how often.
func TestDrawnCollectIsNotSeen(t *testing.T) {
	d := dice(4)
	for range 300 {
		p, room := d.good(), 2+d.below(20)
		var once, often []api.Act
		for _, a := range d.script(80) {
			if a.Kind != api.Collect {
				once, often = append(once, a), append(often, a)
			}
			for d.below(2) > 0 {
				often = append(often, collect(d.below(8)))
			}
		}
		v, _ := actor.Run(p, room, once)
		w, e := actor.Run(p, room, often)
		want(t, told("cleared up often", p, often), all(tidy(p, w), e), all(tidy(p, v), api.OK))
	}
}

// alone: what an actor is to do is done by itself: it is nothing that others are told, and it does not end by it.
func alone(p api.Program, w api.World, n int) bool {
	a := w.Actors[n]
	if a.Pc >= 0 {
		switch p.Kinds[a.Kind][a.Pc].Op {
		case api.Send, api.Copy, api.Print, api.Spawn:
			return false
		}
	}
	after, _ := actor.Do(p, w, step(n))
	return after.Actors[n].End == a.End
}

// What actors do by themselves can be done in any order.
func TestDrawnOrderIsNotSeen(t *testing.T) {
	d := dice(5)
	met := 0
	for range 3000 {
		p := d.wild()
		w := d.world(p)
		a, b := d.below(len(w.Actors)), d.below(len(w.Actors))
		if a == b || !alone(p, w, a) || !alone(p, w, b) {
			continue
		}
		met++
		one, _ := actor.Do(p, w, step(a))
		one, _ = actor.Do(p, one, step(b))
		two, _ := actor.Do(p, w, step(b))
		two, _ = actor.Do(p, two, step(a))
		want(t, "the other way round", all(one), all(two))
	}
	if met < 500 {
		t.Errorf("too few to tell anything: %d", met)
	}
}

// No numbers, however strange, make a call panic; what is refused is empty.
func TestDrawnWithoutSense(t *testing.T) {
	d := dice(6)
	odd := []int{0, 0, 0, 1, 2, 3, 7, 8, 9, -1, -2, 60, 61, word + 1, math.MinInt, math.MaxInt}
	draw := func() int { return odd[d.below(len(odd))] }
	value := func() api.Value { return api.Value{Kind: draw(), N: draw()} }
	for range 5000 {
		p := d.wild()
		w := d.world(p)
		for range 1 + d.below(2) {
			a := &w.Actors[d.below(len(w.Actors))]
			switch d.below(9) {
			case 0:
				a.Kind = draw()
			case 1:
				a.Parent = draw()
			case 2:
				a.Pc = draw()
			case 3:
				a.End = draw()
			case 4:
				a.Heap.Most = draw()
			case 5:
				a.Regs = times(d.below(10), value())
			case 6:
				a.Box = times(d.below(10), value())
			case 7:
				a.Heap.Objects = append(a.Heap.Objects, api.Object{Fields: times(d.below(6), value()), Dead: d.below(3) == 0})
			case 8:
				w.Prints = times(d.below(600), api.Told{Actor: draw(), N: draw()})
			}
		}
		act := api.Act{Kind: d.below(5), Actor: d.below(10) - 1, N: draw(), M: draw()}
		may := actor.Check(p, w)
		want(t, "Copy", all(actor.Copy(w)), all(w))
		if after, e := actor.Do(p, w, act); e != api.OK && told(after) != told(world()) || may != api.OK && e != may {
			t.Errorf("Do(%v, %+v, %+v): %+v, %d", p, w, act, after, e)
		}
		if after, e := actor.Run(p, draw(), []api.Act{act}); e != api.OK && told(after) != told(world()) {
			t.Errorf("Run(%v, %+v): %+v, %d", p, act, after, e)
		}
	}
}
