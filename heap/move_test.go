package heap_test

import (
	"testing"

	"treadwheel/api"
	"treadwheel/heap"
)

// tree: 0 leads to 5 and 3, 5 to 1, 3 to 4 and 1, 4 back to 0; nothing leads to 2, and 6 is dead.
func tree() api.Heap {
	return heapOf(9,
		object(ref(5), num(7), ref(3)),
		object(num(1)),
		object(ref(0), ref(6)),
		object(ref(4), empty, ref(1), num(3)),
		object(ref(0)),
		object(num(5), ref(1)),
		dead,
	)
}

func TestReach(t *testing.T) {
	for _, c := range []struct {
		what  string
		roots []api.Value
		want  []int
	}{
		{"no values", nil, nil},
		{"no Refs", []api.Value{empty, num(0), num(3)}, nil},
		{"one without Refs", []api.Value{ref(1)}, []int{1}},
		{"a dead one", []api.Value{ref(6)}, []int{6}},
		{"row by row, not deeper first", []api.Value{ref(0)}, []int{0, 5, 3, 1, 4}},
		{"from within a ring", []api.Value{ref(4)}, []int{4, 0, 5, 3, 1}},
		{"the values' own first", []api.Value{ref(0), ref(4)}, []int{0, 4, 5, 3, 1}},
		{"one by one", []api.Value{ref(4), num(2), ref(0), empty, ref(1)}, []int{4, 0, 1, 5, 3}},
		{"each once", []api.Value{ref(1), ref(1), ref(6), ref(1)}, []int{1, 6}},
		{"fields that lead to a dead one", []api.Value{ref(2)}, []int{2, 0, 6, 5, 3, 1, 4}},
		{"fields of the first value ahead of those of the next", []api.Value{ref(3), ref(2)}, []int{3, 2, 4, 1, 0, 6, 5}},
	} {
		want(t, c.what, all(heap.Reach(tree(), c.roots)), all(c.want, api.OK))
	}
}

func TestReachItself(t *testing.T) {
	h := heapOf(2, object(ref(1), ref(0)), object(ref(1), ref(1), ref(0)))
	want(t, "Reach", all(heap.Reach(h, []api.Value{ref(1)})), all([]int{1, 0}, api.OK))
}

// The longest way that there may be, backwards through the largest heap.
func TestReachFar(t *testing.T) {
	h := full(60)
	var way []int
	for i := 59; i > 0; i-- {
		h.Objects[i] = object(empty, ref(i-1))
		way = append(way, i)
	}
	want(t, "Reach", all(heap.Reach(h, []api.Value{ref(59)})), all(append(way, 0), api.OK))
}

func TestCollect(t *testing.T) {
	for _, c := range []struct {
		what  string
		roots []api.Value
		h     api.Heap
		moved []api.Value
	}{
		{"no values", nil, heapOf(9), nil},
		{"no Refs", []api.Value{num(3), empty, num(-word)}, heapOf(9), []api.Value{num(3), empty, num(-word)}},
		{"one alone", []api.Value{ref(1)}, heapOf(9, object(num(1))), []api.Value{ref(0)}},
		{"a dead one", []api.Value{num(6), ref(6), ref(6)}, heapOf(9, dead), []api.Value{num(6), ref(0), ref(0)}},
		{"in the order of the heap, not of the values", []api.Value{ref(5), ref(1)},
			heapOf(9, object(num(1)), object(num(5), ref(0))), []api.Value{ref(1), ref(0)}},
		{"those behind the one that goes move up", []api.Value{ref(4), num(4)},
			heapOf(9, object(ref(4), num(7), ref(2)), object(num(1)), object(ref(3), empty, ref(1), num(3)), object(ref(0)), object(num(5), ref(1))),
			[]api.Value{ref(3), num(4)}},
		{"all of them stay", []api.Value{ref(2)}, tree(), []api.Value{ref(2)}},
		{"a dead one within", []api.Value{empty, ref(6), ref(1)}, heapOf(9, object(num(1)), dead), []api.Value{empty, ref(1), ref(0)}},
	} {
		want(t, c.what, all(heap.Collect(tree(), c.roots)), all(c.h, c.moved, api.OK))
	}
}

func TestCollectKeepsMost(t *testing.T) {
	want(t, "Collect", all(heap.Collect(full(60), []api.Value{ref(59)})), all(heapOf(60, object(num(59))), []api.Value{ref(0)}, api.OK))
	want(t, "Collect of nothing", all(heap.Collect(heapOf(0), []api.Value{empty})), all(heapOf(0), []api.Value{empty}, api.OK))
}

// other: a heap of three objects.
func other(most int) api.Heap {
	return heapOf(most, object(ref(2), num(1)), dead, object(ref(0)))
}

func TestTransfer(t *testing.T) {
	laid := []api.Object{ // what 0 of the tree leads to, behind three objects: 0, 5, 3, 1 and 4 of the tree are 3, 4, 5, 6 and 7
		object(ref(4), num(7), ref(5)),
		object(num(5), ref(6)),
		object(ref(7), empty, ref(6), num(3)),
		object(num(1)),
		object(ref(3)),
	}
	to := heapOf(8, append(other(8).Objects, laid...)...)
	left := heapOf(9, dead, dead, object(ref(0), ref(6)), dead, dead, dead, dead)
	want(t, "copied", all(heap.Transfer(tree(), ref(0), other(8), false)), all(tree(), to, ref(3), api.OK))
	want(t, "moved", all(heap.Transfer(tree(), ref(0), other(8), true)), all(left, to, ref(3), api.OK))
}

func TestTransferToAnEmptyHeap(t *testing.T) {
	h := heapOf(2, object(ref(1), num(4)), object(ref(1)))
	want(t, "all", all(heap.Transfer(h, ref(0), heapOf(2), true)), all(heapOf(2, dead, dead), h, ref(0), api.OK))
	want(t, "some", all(heap.Transfer(h, ref(1), heapOf(60), true)),
		all(heapOf(2, object(ref(1), num(4)), dead), heapOf(60, object(ref(0))), ref(0), api.OK))
}

// A value that leads to nothing needs no room.
func TestTransferOfNothing(t *testing.T) {
	for _, v := range []api.Value{empty, num(0), num(6), num(word)} {
		for _, to := range []api.Heap{heapOf(0), full(60), other(3)} {
			for _, move := range []bool{false, true} {
				want(t, "no Ref", all(heap.Transfer(tree(), v, to, move)), all(tree(), to, v, api.OK))
			}
		}
	}
}

func TestTransferWithinOneHeap(t *testing.T) {
	h := heapOf(4, object(num(1)), object(ref(0)))
	both := heapOf(4, object(num(1)), object(ref(0)), object(ref(3)), object(num(1)))
	want(t, "copied", all(heap.Transfer(h, ref(1), h, false)), all(h, both, ref(2), api.OK))
	want(t, "moved", all(heap.Transfer(h, ref(1), h, true)), all(heapOf(4, dead, dead), both, ref(2), api.OK))
}

func TestTransferRefuses(t *testing.T) {
	refused := func(what string, from api.Heap, v api.Value, to api.Heap, e api.Errno) {
		t.Helper()
		for _, move := range []bool{false, true} {
			want(t, what, all(heap.Transfer(from, v, to, move)), all(heapOf(0), heapOf(0), empty, e))
		}
	}
	refused("a dead one", tree(), ref(6), other(9), api.ErrDead)
	refused("one that leads to a dead one", tree(), ref(2), other(60), api.ErrDead)
	refused("a dead one, and no room", tree(), ref(2), other(3), api.ErrDead)
	refused("no room for one more", tree(), ref(0), other(7), api.ErrRoom)
	refused("no room for one", tree(), ref(1), other(3), api.ErrRoom)
	refused("no room at all", tree(), ref(1), heapOf(0), api.ErrRoom)
	refused("no room in the largest one", full(60), ref(0), full(60), api.ErrRoom)
}

// What is dead elsewhere in either heap is no matter.
func TestTransferBesideDeadOnes(t *testing.T) {
	from, to := heapOf(3, dead, object(num(1)), dead), heapOf(2, dead)
	want(t, "Transfer", all(heap.Transfer(from, ref(1), to, true)),
		all(heapOf(3, dead, dead, dead), heapOf(2, dead, object(num(1))), ref(1), api.OK))
}
