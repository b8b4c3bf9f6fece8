package heap

import "treadwheel/api"

func isMost(n int) bool { return 0 <= n && n <= api.MaxObjects }

func isFieldCount(n int) bool { return 1 <= n && n <= api.MaxFields }

// isObject of a heap with so many objects.
func isObject(o api.Object, objects int) bool {
	if o.Dead {
		return len(o.Fields) == 0
	}
	return isFieldCount(len(o.Fields)) && areValues(o.Fields, objects)
}

func areValues(l []api.Value, objects int) bool {
	for _, v := range l {
		if !isValue(v, objects) {
			return false
		}
	}
	return true
}

// isValue of a heap with so many objects; a Ref may be to a dead one.
func isValue(v api.Value, objects int) bool {
	switch v.Kind {
	case api.Nil:
		return v.N == 0
	case api.Int:
		return -api.MaxWord <= v.N && v.N <= api.MaxWord
	case api.Ref:
		return 0 <= v.N && v.N < objects
	}
	return false
}

// checkField that is asked for: the heap and the value may be by then.
func checkField(h api.Heap, v api.Value, f int) api.Errno {
	if v.Kind != api.Ref {
		return api.ErrType
	}
	o := h.Objects[v.N]
	if o.Dead {
		return api.ErrDead
	}
	if f < 0 || f >= len(o.Fields) {
		return api.ErrRange
	}
	return api.OK
}

// transferable: what a value leads to, in the order in which it is laid into the other heap.
func transferable(from api.Heap, v api.Value, to api.Heap) ([]int, api.Errno) {
	if Check(from, []api.Value{v}) != api.OK || Check(to, nil) != api.OK {
		return nil, api.ErrState
	}
	order := reached(from, []api.Value{v})
	for _, place := range order {
		if from.Objects[place].Dead {
			return nil, api.ErrDead
		}
	}
	if len(to.Objects)+len(order) > to.Most {
		return nil, api.ErrRoom
	}
	return order, api.OK
}
