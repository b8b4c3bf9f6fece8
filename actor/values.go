package actor

import (
	"slices"

	"treadwheel/api"
)

const (
	leastMost = 2  // the smallest heap: the state, and a message
	nobody    = -1 // as Parent
	waiting   = -1 // as Pc
)

func number(n int) api.Value { return api.Value{Kind: api.Int, N: n} }

func isNoNumber(v api.Value) bool { return v.Kind != api.Int }

// isNoObject: a Ref to a dead one is an object here; who needs it to be alive asks the heap.
func isNoObject(v api.Value) bool { return v.Kind != api.Ref }

func isWord(n int) bool { return -api.MaxWord <= n && n <= api.MaxWord }

// roots of an actor's heap, in the order in which they lead on.
func roots(a api.Actor) []api.Value { return slices.Concat(a.Regs, a.Box) }

// copied list. (slices.Clone keeps the place of a list without elements.)
func copied[T any](l []T) []T {
	out := make([]T, len(l))
	copy(out, l)
	return out
}
