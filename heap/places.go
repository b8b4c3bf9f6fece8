package heap

import (
	"slices"

	"treadwheel/api"
)

// reached: the places of the objects that values lead to. The list is the queue as well:
// what is come to stands behind all that was, so that its fields are gone through row by row.
func reached(h api.Heap, roots []api.Value) []int {
	var order []int
	rank := map[int]int{}
	visit := func(v api.Value) {
		if v.Kind != api.Ref {
			return
		}
		if _, known := rank[v.N]; !known {
			rank[v.N] = len(order)
			order = append(order, v.N)
		}
	}
	each(roots, visit)
	for i := 0; i < len(order); i++ {
		each(h.Objects[order[i]].Fields, visit)
	}
	return order
}

func each(l []api.Value, do func(api.Value)) {
	for _, v := range l {
		do(v)
	}
}

func inHeapOrder(places []int) []int {
	slices.Sort(places)
	return places
}

// newPlaces of objects that stand one behind the other from that place on, by their old places.
func newPlaces(old []int, from int) map[int]int {
	places := make(map[int]int, len(old))
	for i, place := range old {
		places[place] = from + i
	}
	return places
}

// mover of values from old places to new ones. What it is given leads to none but these:
// all that an object's fields lead to was come to with the object.
func mover(places map[int]int) func(api.Value) api.Value {
	return func(v api.Value) api.Value {
		if v.Kind == api.Ref {
			v.N = places[v.N]
		}
		return v
	}
}

func movedValues(l []api.Value, move func(api.Value) api.Value) []api.Value {
	moved := make([]api.Value, len(l))
	for i, v := range l {
		moved[i] = move(v)
	}
	return moved
}

func movedObjects(h api.Heap, places []int, move func(api.Value) api.Value) []api.Object {
	objects := make([]api.Object, len(places))
	for i, place := range places {
		o := h.Objects[place]
		objects[i] = api.Object{Fields: movedValues(o.Fields, move), Dead: o.Dead}
	}
	return objects
}

// bury objects of a heap that is one's own.
func bury(h api.Heap, places []int) {
	for _, place := range places {
		h.Objects[place] = api.Object{Dead: true}
	}
}
