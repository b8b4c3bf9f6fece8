package actor

import (
	"treadwheel/api"
	"treadwheel/heap"
)

// What is done from here on is done to a world in memory of one's own, that may be.

// beginning of an actor: it waits, and knows its state alone.
func beginning(kind, parent int, h api.Heap, state api.Value) api.Actor {
	regs := make([]api.Value, api.Regs)
	regs[0] = state
	return api.Actor{Kind: kind, Parent: parent, Heap: h, Regs: regs, Pc: waiting}
}

func lives(w *api.World, number int) bool {
	return 0 <= number && number < len(w.Actors) && w.Actors[number].End == api.Lives
}

// takes a message, if there is room for what it leads to.
func takes(w *api.World, number int) bool {
	return lives(w, number) && len(w.Actors[number].Box) < api.MaxBox
}

// clearUp an actor's heap.
func clearUp(a *api.Actor) {
	h, moved, e := heap.Collect(a.Heap, roots(*a))
	if e != api.OK {
		return
	}
	a.Heap = h
	// Copied, not cut: two lists of one answer must not share memory.
	n := copy(a.Regs, moved)
	copy(a.Box, moved[n:])
}

// give an actor an object of so many fields, if there is room for it.
func give(a *api.Actor, fields int) (api.Value, bool) {
	h, v, e := heap.Alloc(a.Heap, fields)
	if e == api.ErrRoom {
		clearUp(a)
		h, v, e = heap.Alloc(a.Heap, fields)
	}
	if e != api.OK {
		return api.Value{}, false
	}
	a.Heap = h
	return v, true
}

// tell an actor two numbers.
func tell(w *api.World, to, n, m int) {
	if !takes(w, to) {
		return
	}
	a := &w.Actors[to]
	v, ok := give(a, 2)
	if !ok {
		return
	}
	fields := a.Heap.Objects[v.N].Fields
	fields[0], fields[1] = number(n), number(m)
	a.Box = append(a.Box, v)
}

// end an actor in that way. Its Parent is told last, and may be nobody, or have ended.
func end(w *api.World, who, way int) {
	a := &w.Actors[who]
	clear(a.Regs)
	a.Box = nil
	a.Heap.Objects = nil
	a.Pc = waiting
	a.End = way
	tell(w, a.Parent, who, way)
}
