package actor

import (
	"slices"

	"treadwheel/api"
	"treadwheel/heap"
)

// isWorld of a program that is verified.
func isWorld(p api.Program, w api.World) bool {
	if len(w.Actors) < 1 || len(w.Actors) > api.MaxActors || len(w.Prints) > api.MaxPrints {
		return false
	}
	for _, t := range w.Prints {
		if t.Actor < 0 || t.Actor >= len(w.Actors) || !isWord(t.N) {
			return false
		}
	}
	for i, a := range w.Actors {
		if !isActor(p, a, i) {
			return false
		}
	}
	return true
}

// isActor of that number.
func isActor(p api.Program, a api.Actor, number int) bool {
	if a.Kind < 0 || a.Kind >= len(p.Kinds) || a.Parent < nobody || a.Parent >= number {
		return false
	}
	if a.Pc < waiting || a.Pc >= len(p.Kinds[a.Kind]) || a.End < api.Lives || a.End > api.Broken {
		return false
	}
	if len(a.Regs) != api.Regs || len(a.Box) > api.MaxBox || slices.ContainsFunc(a.Box, isNoObject) {
		return false
	}
	if heap.Check(a.Heap, roots(a)) != api.OK {
		return false
	}
	return a.End == api.Lives || isEmptied(a)
}

// isEmptied: as one must be that has ended. Its registers lead nowhere then, since there is nothing in its heap.
func isEmptied(a api.Actor) bool {
	return len(a.Box) == 0 && len(a.Heap.Objects) == 0 && a.Pc == waiting
}

// checkAct, whatever the world is in which it is done.
func checkAct(a api.Act) api.Errno {
	if a.Kind != api.Step && a.Kind != api.Collect && a.Kind != api.Tell {
		return api.ErrKind
	}
	if a.Actor < 0 || a.Actor >= api.MaxActors || !isWord(a.N) || !isWord(a.M) {
		return api.ErrRange
	}
	return api.OK
}
