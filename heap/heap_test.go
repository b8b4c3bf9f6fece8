package heap_test

import (
	"fmt"
	"math"
	"testing"

	"treadwheel/api"
	"treadwheel/heap"
)

const word = 1 << 40

var (
	empty = api.Value{}
	dead  = api.Object{Dead: true}
)

func ref(n int) api.Value { return api.Value{Kind: api.Ref, N: n} }

func num(n int) api.Value { return api.Value{Kind: api.Int, N: n} }

func object(fields ...api.Value) api.Object { return api.Object{Fields: fields} }

func heapOf(most int, objects ...api.Object) api.Heap {
	return api.Heap{Most: most, Objects: objects}
}

// full: a heap of so many objects, and of no more.
func full(objects int) api.Heap {
	h := heapOf(objects)
	for i := range objects {
		h.Objects = append(h.Objects, object(num(i)))
	}
	return h
}

// told: answers as one text; an empty list is told alike, be it nil or not.
func told(answers ...any) string { return fmt.Sprintf("%+v", answers) }

// want: both are given as answers, in the order in which a call gives them.
func want(t *testing.T, what string, got, wanted []any) {
	t.Helper()
	if g, w := told(got...), told(wanted...); g != w {
		t.Errorf("%s: %s, want %s", what, g, w)
	}
}

// all: the answers of a call as a list.
func all(answers ...any) []any { return answers }

func TestNew(t *testing.T) {
	for _, most := range []int{0, 1, 2, 59, 60} {
		want(t, "New", all(heap.New(most)), all(heapOf(most), api.OK))
	}
	for _, most := range []int{-1, 61, 62, math.MinInt, math.MaxInt} {
		want(t, "New beyond its bounds", all(heap.New(most)), all(heapOf(0), api.ErrRange))
	}
}

// good heaps, and values of them.
var good = []struct {
	h     api.Heap
	roots []api.Value
}{
	{heapOf(0), nil},
	{heapOf(0), []api.Value{}},
	{heapOf(0), []api.Value{empty, num(0), num(word), num(-word)}},
	{heapOf(60), []api.Value{empty}},
	{full(60), []api.Value{ref(0), ref(59)}},
	{full(1), []api.Value{ref(0), ref(0)}},
	{heapOf(1, dead), []api.Value{ref(0)}},
	{api.Heap{Most: 1, Objects: []api.Object{{Fields: []api.Value{}, Dead: true}}}, nil},
	{heapOf(2, object(ref(0)), object(ref(0), ref(1), empty, num(-word))), []api.Value{ref(1)}},
	{heapOf(3, object(ref(1), num(word)), dead, object(empty, empty, empty)), []api.Value{ref(2), ref(1)}},
}

// bad heaps: none of them may be.
var bad = []api.Heap{
	heapOf(-1),
	heapOf(61),
	heapOf(math.MinInt),
	heapOf(math.MaxInt),
	heapOf(0, object(empty)),
	heapOf(0, dead),
	heapOf(1, object(empty), object(empty)),
	heapOf(-1, object(empty)),
	heapOf(61, object(empty)),
	{Most: 60, Objects: full(61).Objects},
	full(61),
	heapOf(1, object()),
	heapOf(2, object(num(1)), object()),
	heapOf(1, object(empty, empty, empty, empty, empty)),
	heapOf(1, api.Object{Fields: []api.Value{empty}, Dead: true}),
	heapOf(2, dead, api.Object{Fields: []api.Value{num(1), num(2)}, Dead: true}),
	heapOf(1, object(ref(1))),
	heapOf(60, object(ref(1))),
	heapOf(1, object(ref(-1))),
	heapOf(1, object(ref(math.MaxInt))),
	heapOf(1, object(num(word+1))),
	heapOf(1, object(num(-word-1))),
	heapOf(1, object(num(math.MinInt))),
	heapOf(1, object(api.Value{Kind: api.Nil, N: 1})),
	heapOf(1, object(api.Value{Kind: api.Nil, N: -1})),
	heapOf(1, object(api.Value{Kind: 3})),
	heapOf(1, object(api.Value{Kind: -1})),
	heapOf(2, object(num(1), num(2), num(3), num(4)), object(num(1), num(2), num(3), ref(2))),
}

// strange values: none of them is one of a heap with two objects.
var strange = []api.Value{
	ref(2), ref(3), ref(60), ref(-1), ref(math.MinInt), ref(math.MaxInt),
	num(word + 1), num(-word - 1), num(math.MinInt), num(math.MaxInt),
	{Kind: api.Nil, N: 1}, {Kind: api.Nil, N: -1}, {Kind: api.Nil, N: math.MinInt},
	{Kind: 3}, {Kind: 4, N: 1}, {Kind: -1}, {Kind: math.MinInt}, {Kind: math.MaxInt},
}

func TestCheckTakesWhatMayBe(t *testing.T) {
	for _, c := range good {
		if e := heap.Check(c.h, c.roots); e != api.OK {
			t.Errorf("Check(%v, %v): %d", c.h, c.roots, e)
		}
	}
}

func TestCheckRefusesHeaps(t *testing.T) {
	for _, h := range bad {
		for _, roots := range [][]api.Value{nil, {empty}, {num(1), num(2)}} {
			if e := heap.Check(h, roots); e != api.ErrState {
				t.Errorf("Check(%v, %v): %d", h, roots, e)
			}
		}
	}
}

func TestCheckRefusesValues(t *testing.T) {
	h := heapOf(60, object(num(1), ref(1)), dead)
	for _, v := range strange {
		for _, roots := range [][]api.Value{{v}, {v, ref(0)}, {empty, ref(1), v}} {
			if e := heap.Check(h, roots); e != api.ErrState {
				t.Errorf("Check(%v, %v): %d", h, roots, e)
			}
		}
	}
}

func TestCloneIsTheSame(t *testing.T) {
	for _, c := range good {
		want(t, "Clone", all(heap.Clone(c.h)), all(c.h))
	}
	for _, h := range bad {
		want(t, "Clone of what may not be", all(heap.Clone(h)), all(h))
	}
}

func TestAlloc(t *testing.T) {
	for n := 1; n <= 4; n++ {
		o := object(make([]api.Value, n)...)
		want(t, "the first one", all(heap.Alloc(heapOf(1), n)), all(heapOf(1, o), ref(0), api.OK))
		want(t, "the next one", all(heap.Alloc(heapOf(9, object(ref(1), num(7)), dead), n)),
			all(heapOf(9, object(ref(1), num(7)), dead, o), ref(2), api.OK))
	}
	h := full(59)
	h.Most = 60
	last := append(full(59).Objects, object(empty))
	want(t, "the last one", all(heap.Alloc(h, 1)), all(heapOf(60, last...), ref(59), api.OK))
}

func TestAllocRefuses(t *testing.T) {
	refused := func(what string, h api.Heap, fields int, e api.Errno) {
		t.Helper()
		want(t, what, all(heap.Alloc(h, fields)), all(heapOf(0), empty, e))
	}
	for _, n := range []int{0, -1, 5, 6, math.MinInt, math.MaxInt} {
		refused("no such count of fields", heapOf(3, object(num(1))), n, api.ErrRange)
		refused("no such count of fields, and no room", full(2), n, api.ErrRange)
		refused("no such count of fields, and no heap", heapOf(-1), n, api.ErrState)
	}
	refused("no room at all", heapOf(0), 1, api.ErrRoom)
	refused("no room", full(1), 4, api.ErrRoom)
	refused("no room in the largest one", full(60), 1, api.ErrRoom)
	refused("dead objects take room, too", heapOf(2, dead, dead), 1, api.ErrRoom)
}

func TestGet(t *testing.T) {
	h := heapOf(9, object(num(5), empty, ref(2), ref(0)), object(num(-word)), dead)
	for f, v := range []api.Value{num(5), empty, ref(2), ref(0)} {
		want(t, "Get", all(heap.Get(h, ref(0), f)), all(v, api.OK))
	}
	want(t, "Get of another one", all(heap.Get(h, ref(1), 0)), all(num(-word), api.OK))
}

func TestSet(t *testing.T) {
	h := heapOf(9, object(num(5), empty), object(num(7)), dead)
	for _, x := range []api.Value{empty, num(0), num(word), num(-word), ref(0), ref(1), ref(2)} {
		want(t, "the first field", all(heap.Set(h, ref(0), 0, x)), all(heapOf(9, object(x, empty), object(num(7)), dead), api.OK))
		want(t, "the last field", all(heap.Set(h, ref(0), 1, x)), all(heapOf(9, object(num(5), x), object(num(7)), dead), api.OK))
		want(t, "another object", all(heap.Set(h, ref(1), 0, x)), all(heapOf(9, object(num(5), empty), object(x), dead), api.OK))
	}
}

func TestGetAndSetRefuse(t *testing.T) {
	h := heapOf(9, object(num(5), empty), dead, object(num(1), num(2), num(3), num(4)))
	refused := func(what string, v api.Value, f int, e api.Errno) {
		t.Helper()
		want(t, what, all(heap.Get(h, v, f)), all(empty, e))
		want(t, what, all(heap.Set(h, v, f, num(1))), all(heapOf(0), e))
	}
	for _, f := range []int{0, 2, -1, math.MaxInt} {
		refused("nothing", empty, f, api.ErrType)
		refused("a number", num(0), f, api.ErrType)
		refused("a number of a dead one", num(1), f, api.ErrType)
		refused("a dead one", ref(1), f, api.ErrDead)
	}
	for _, f := range []int{-1, 2, 3, 4, math.MinInt, math.MaxInt} {
		refused("no such field", ref(0), f, api.ErrRange)
	}
	refused("behind the last of four fields", ref(2), 4, api.ErrRange)
}

// All calls but New and Clone, each with nothing but this heap and this value.
func refusals(h api.Heap, v api.Value) map[string]string {
	whole := heapOf(60, object(num(1)))
	return map[string]string{
		"Get":                told(heap.Get(h, v, 0)),
		"Get, no field":      told(heap.Get(h, v, -1)),
		"Set":                told(heap.Set(h, v, 0, empty)),
		"Set, no field":      told(heap.Set(h, v, 9, empty)),
		"Set to it":          told(heap.Set(h, empty, 0, v)),
		"Reach":              told(heap.Reach(h, []api.Value{empty, v})),
		"Collect":            told(heap.Collect(h, []api.Value{v, empty})),
		"Transfer":           told(heap.Transfer(h, v, whole, false)),
		"Transfer, moved":    told(heap.Transfer(h, v, whole, true)),
		"Transfer, no room":  told(heap.Transfer(h, v, full(1), true)),
		"Transfer to itself": told(heap.Transfer(h, v, h, true)),
	}
}

// empties: what those calls answer beside an error.
func empties(e api.Errno) map[string]string {
	get, set := told(empty, e), told(heapOf(0), e)
	transfer := told(heapOf(0), heapOf(0), empty, e)
	return map[string]string{
		"Get": get, "Get, no field": get,
		"Set": set, "Set, no field": set, "Set to it": set,
		"Reach":   told([]int{}, e),
		"Collect": told(heapOf(0), []api.Value{}, e),

		"Transfer": transfer, "Transfer, moved": transfer, "Transfer, no room": transfer, "Transfer to itself": transfer,
	}
}

func TestAllRefuseWhatCheckRefuses(t *testing.T) {
	wanted := empties(api.ErrState)
	for _, h := range bad {
		for what, got := range refusals(h, empty) {
			if got != wanted[what] {
				t.Errorf("%s of the heap %v: %s", what, h, got)
			}
		}
		want(t, "Alloc", all(heap.Alloc(h, 1)), all(heapOf(0), empty, api.ErrState))
	}
	two := heapOf(60, object(num(1), ref(1)), dead)
	for _, v := range strange {
		for what, got := range refusals(two, v) {
			if got != wanted[what] {
				t.Errorf("%s of the value %v: %s", what, v, got)
			}
		}
	}
}

// That a heap, or a value, may not be is told ahead of all else that is wrong.
func TestStateComesFirst(t *testing.T) {
	h := heapOf(2, dead, object(num(1)))
	nothing := all(heapOf(0), heapOf(0), empty, api.ErrState)
	for _, to := range bad {
		want(t, "another heap that may not be", all(heap.Transfer(h, ref(1), to, true)), nothing)
		want(t, "another heap that may not be, and nothing to move", all(heap.Transfer(h, empty, to, false)), nothing)
		want(t, "another heap that may not be, and a dead one", all(heap.Transfer(h, ref(0), to, true)), nothing)
	}
	for _, x := range strange {
		want(t, "x, and no Ref", all(heap.Set(h, num(1), 0, x)), all(heapOf(0), api.ErrState))
		want(t, "x, and a dead one", all(heap.Set(h, ref(0), 0, x)), all(heapOf(0), api.ErrState))
		want(t, "x, and no field", all(heap.Set(h, ref(1), 1, x)), all(heapOf(0), api.ErrState))
	}
}
