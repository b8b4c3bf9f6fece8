package actor

import (
	"treadwheel/api"
	"treadwheel/heap"
)

// perform an instruction: the way in which the actor ends by it, or Lives.
func perform(w *api.World, who int, in api.Instr) int {
	a := &w.Actors[who]
	switch in.Op {
	case api.Done:
		return finish(a)
	case api.Li:
		a.Regs[in.A] = number(in.N)
	case api.Add, api.Sub, api.Less:
		return reckon(a, in)
	case api.Jz:
		return needNumber(a.Regs[in.A])
	case api.New:
		return makeObject(a, in)
	case api.GetInt:
		return get(a, in, api.Int, api.NoInt)
	case api.GetRef:
		return get(a, in, api.Ref, api.NoRef)
	case api.PutInt:
		return put(a, in, api.Int)
	case api.PutRef:
		return put(a, in, api.Ref)
	case api.Move:
		a.Regs[in.A] = a.Regs[in.B]
	case api.Send, api.Copy:
		return send(w, who, in)
	case api.Print:
		return report(w, who, in)
	case api.Self:
		a.Regs[in.A] = number(who)
	case api.Spawn:
		return spawn(w, who, in)
	case api.Drop:
		a.Regs[in.A] = api.Value{}
	case api.Stop:
		return api.Stopped
	}
	return api.Lives
}

// finish with a message: the state alone is kept.
func finish(a *api.Actor) int {
	if isNoObject(a.Regs[0]) {
		return api.Broken
	}
	clear(a.Regs[1:])
	return api.Lives
}

func needNumber(v api.Value) int {
	if isNoNumber(v) {
		return api.Broken
	}
	return api.Lives
}

// reckon with A and B. Both are words, so that nothing wraps round.
func reckon(a *api.Actor, in api.Instr) int {
	x, y := a.Regs[in.A], a.Regs[in.B]
	if isNoNumber(x) || isNoNumber(y) {
		return api.Broken
	}
	n := result(in.Op, x.N, y.N)
	if !isWord(n) {
		return api.NoNumber
	}
	a.Regs[in.A] = number(n)
	return api.Lives
}

func result(op, x, y int) int {
	switch {
	case op == api.Add:
		return x + y
	case op == api.Sub:
		return x - y
	case x < y:
		return 1
	}
	return 0
}

func makeObject(a *api.Actor, in api.Instr) int {
	v, ok := give(a, in.N)
	if !ok {
		return api.NoRoom
	}
	a.Regs[in.A] = v
	return api.Lives
}

// get a field of that kind; otherwise: the way to end, if it is of another one.
func get(a *api.Actor, in api.Instr, kind, otherwise int) int {
	v, e := heap.Get(a.Heap, a.Regs[in.B], in.N)
	if e != api.OK {
		return fault(e)
	}
	if v.Kind != kind {
		return otherwise
	}
	a.Regs[in.A] = v
	return api.Lives
}

// put a value of that kind into a field. What it is is asked last: the heap that is set is not taken, if it is another one.
func put(a *api.Actor, in api.Instr, kind int) int {
	x := a.Regs[in.B]
	h, e := heap.Set(a.Heap, a.Regs[in.A], in.N, x)
	if e != api.OK {
		return fault(e)
	}
	if x.Kind != kind {
		return api.Broken
	}
	a.Heap = h
	return api.Lives
}

// fault of an actor, by what a heap refuses of its field.
func fault(e api.Errno) int {
	if e == api.ErrRange {
		return api.NoField
	}
	return api.Broken
}

// report a number, if there is room among what was told.
func report(w *api.World, who int, in api.Instr) int {
	v := w.Actors[who].Regs[in.A]
	if isNoNumber(v) {
		return api.Broken
	}
	if len(w.Prints) < api.MaxPrints {
		w.Prints = append(w.Prints, api.Told{Actor: who, N: v.N})
	}
	return api.Lives
}
