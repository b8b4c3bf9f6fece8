package actor

import (
	"treadwheel/api"
	"treadwheel/heap"
)

// send the object A, moved or copied, to the actor B.
func send(w *api.World, who int, in api.Instr) int {
	a := &w.Actors[who]
	if isNoObject(a.Regs[in.A]) || isNoNumber(a.Regs[in.B]) || leadsToDead(a.Heap, a.Regs[in.A]) {
		return api.Broken
	}
	to := a.Regs[in.B].N
	moved := in.Op == api.Send
	if moved {
		// Deferred: it is empty whether the object comes there or not, and not before it was.
		defer func() { a.Regs[in.A] = api.Value{} }()
	}
	switch {
	case !takes(w, to):
	case moved && to == who:
		a.Box = append(a.Box, a.Regs[in.A])
	default:
		deliver(a, in.A, &w.Actors[to], moved)
	}
	return api.Lives
}

func leadsToDead(h api.Heap, v api.Value) bool {
	places, _ := heap.Reach(h, []api.Value{v})
	for _, place := range places {
		if h.Objects[place].Dead {
			return true
		}
	}
	return false
}

// deliver the object of a register as a message, if there is room for it. Both may be the same actor, if it is copied.
func deliver(from *api.Actor, register int, to *api.Actor, moved bool) {
	left, h, v, e := heap.Transfer(from.Heap, from.Regs[register], to.Heap, moved)
	if e == api.ErrRoom {
		clearUp(to)
		// The heap and the register are asked anew: they are not what they were, if both are the same actor.
		left, h, v, e = heap.Transfer(from.Heap, from.Regs[register], to.Heap, moved)
	}
	if e != api.OK {
		return
	}
	from.Heap = left
	to.Heap = h // last, so that it stays, if both are the same actor
	to.Box = append(to.Box, v)
}

// spawn an actor whose state is the object B.
func spawn(w *api.World, who int, in api.Instr) int {
	a := &w.Actors[who]
	if isNoObject(a.Regs[in.B]) {
		return api.Broken
	}
	if len(w.Actors) >= api.MaxActors {
		return api.NoActors
	}
	// There is room in a heap of as many objects: what is refused is Dead.
	left, h, state, e := heap.Transfer(a.Heap, a.Regs[in.B], api.Heap{Most: a.Heap.Most}, true)
	if e != api.OK {
		return api.Broken
	}
	a.Heap = left
	a.Regs[in.B] = api.Value{}
	a.Regs[in.A] = number(len(w.Actors))
	// Last: the actors may lie elsewhere behind it, and a would be what was.
	w.Actors = append(w.Actors, beginning(in.N, who, h, state))
	return api.Lives
}
