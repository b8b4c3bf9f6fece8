package heap_test

import (
	"math"
	"slices"
	"testing"

	"treadwheel/api"
	"treadwheel/heap"
)

// dice: numbers that look drawn, the same each time.
type dice uint64

// below: from 0 to below most.
func (d *dice) below(most int) int {
	*d = *d*6364136223846793005 + 1442695040888963407
	return int(uint64(*d>>20) % uint64(most))
}

// value of a heap with so many objects.
func (d *dice) value(objects int) api.Value {
	switch k := d.below(8); {
	case k == 0:
		return empty
	case k < 3 || objects == 0:
		return num(d.below(2*word+1) - word)
	}
	return ref(d.below(objects))
}

// heap that may be; of so many objects one is dead.
func (d *dice) heap(oneOf int) api.Heap {
	h := api.Heap{Most: d.below(61)}
	h.Objects = make([]api.Object, d.below(h.Most+1)>>d.below(3))
	for i := range h.Objects {
		if d.below(oneOf) == 0 {
			h.Objects[i].Dead = true
			continue
		}
		for range 1 + d.below(4) {
			h.Objects[i].Fields = append(h.Objects[i].Fields, d.value(len(h.Objects)))
		}
	}
	return h
}

// values of a heap.
func (d *dice) values(h api.Heap) []api.Value {
	l := make([]api.Value, d.below(5))
	for i := range l {
		l[i] = d.value(len(h.Objects))
	}
	return l
}

// rows: what values lead to, row by row, as the document has it.
func rows(h api.Heap, row []api.Value) []int {
	var come []int
	for len(row) > 0 {
		var next []api.Value
		for _, v := range row {
			if v.Kind == api.Ref && !slices.Contains(come, v.N) {
				come = append(come, v.N)
				next = append(next, h.Objects[v.N].Fields...)
			}
		}
		row = next
	}
	return come
}

// renamed values: the place at which an old one stands in the list is the new one, from that place on.
func renamed(l []api.Value, order []int, from int) []api.Value {
	var out []api.Value
	for _, v := range l {
		if v.Kind == api.Ref {
			v.N = from + slices.Index(order, v.N)
		}
		out = append(out, v)
	}
	return out
}

// laid: objects of a heap, one behind the other from that place on.
func laid(h api.Heap, order []int, from int) []api.Object {
	var out []api.Object
	for _, place := range order {
		out = append(out, api.Object{Fields: renamed(h.Objects[place].Fields, order, from), Dead: h.Objects[place].Dead})
	}
	return out
}

func TestDrawnReachAndCollect(t *testing.T) {
	d := dice(1)
	for range 3000 {
		h := d.heap(6)
		roots := d.values(h)
		order := rows(h, roots)
		want(t, "Reach", all(heap.Reach(h, roots)), all(order, api.OK))
		slices.Sort(order)
		want(t, "Collect", all(heap.Collect(h, roots)),
			all(heapOf(h.Most, laid(h, order, 0)...), renamed(roots, order, 0), api.OK))
	}
}

// transferred: what Transfer should answer.
func transferred(from api.Heap, v api.Value, to api.Heap, move bool) []any {
	order := rows(from, []api.Value{v})
	isDead := func(place int) bool { return from.Objects[place].Dead }
	if slices.ContainsFunc(order, isDead) {
		return all(heapOf(0), heapOf(0), empty, api.ErrDead)
	}
	n := len(to.Objects)
	if n+len(order) > to.Most {
		return all(heapOf(0), heapOf(0), empty, api.ErrRoom)
	}
	left := heapOf(from.Most, slices.Clone(from.Objects)...)
	for _, place := range order {
		if move {
			left.Objects[place] = dead
		}
	}
	both := heapOf(to.Most, slices.Concat(to.Objects, laid(from, order, n))...)
	return all(left, both, renamed([]api.Value{v}, order, n)[0], api.OK)
}

func TestDrawnTransfer(t *testing.T) {
	d := dice(2)
	var met [api.ErrDead + 1]int
	for range 3000 {
		from, to, move := d.heap(40), d.heap(6), d.below(2) == 0
		v := d.value(len(from.Objects))
		wanted := transferred(from, v, to, move)
		met[wanted[3].(api.Errno)]++
		want(t, "Transfer", all(heap.Transfer(from, v, to, move)), wanted)
	}
	if met[api.OK] < 100 || met[api.ErrDead] < 100 || met[api.ErrRoom] < 100 {
		t.Errorf("too few of one sort to tell anything: %v", met)
	}
}

// What comes of heaps that may be may be.
func TestDrawnAnswersMayBe(t *testing.T) {
	d := dice(3)
	may := func(what string, h api.Heap, roots []api.Value, e api.Errno) {
		t.Helper()
		if e == api.OK && heap.Check(h, roots) != api.OK {
			t.Errorf("%s: %v, %v, that Check refuses", what, h, roots)
		}
	}
	for range 2000 {
		h, to := d.heap(9), d.heap(9)
		roots, v, x := d.values(h), d.value(len(h.Objects)), d.value(len(h.Objects))
		may("Clone", heap.Clone(h), roots, api.OK)
		g, r, e := heap.Alloc(h, d.below(6))
		may("Alloc", g, append(roots, r), e)
		g, e = heap.Set(h, v, d.below(5), x)
		may("Set", g, roots, e)
		g, l, e := heap.Collect(h, roots)
		may("Collect", g, l, e)
		from, to, w, e := heap.Transfer(h, v, to, d.below(2) == 0)
		may("Transfer, the first heap", from, roots, e)
		may("Transfer, the other one", to, []api.Value{w}, e)
	}
}

func TestDrawnSetAndGet(t *testing.T) {
	d := dice(4)
	for range 2000 {
		h := d.heap(9)
		if len(h.Objects) == 0 {
			continue
		}
		place, f, x := d.below(len(h.Objects)), d.below(5), d.value(len(h.Objects))
		g, e := heap.Set(h, ref(place), f, x)
		if e != api.OK {
			want(t, "refused by both", all(heap.Get(h, ref(place), f)), all(empty, e))
			continue
		}
		want(t, "what was set", all(heap.Get(g, ref(place), f)), all(x, api.OK))
		was, _ := heap.Get(h, ref(place), f)
		want(t, "set back", all(heap.Set(g, ref(place), f, was)), all(h, api.OK))
	}
}

// No numbers, however strange, make a call panic.
func TestDrawnWithoutSense(t *testing.T) {
	d := dice(5)
	odd := []int{0, 1, 2, 3, -1, 60, 61, word, -word, word + 1, math.MinInt, math.MaxInt}
	draw := func() int { return odd[d.below(len(odd))] }
	value := func() api.Value { return api.Value{Kind: draw(), N: draw()} }
	for range 3000 {
		h := api.Heap{Most: draw(), Objects: make([]api.Object, d.below(5))}
		for i := range h.Objects {
			h.Objects[i].Dead = d.below(4) == 0
			for range d.below(6) {
				h.Objects[i].Fields = append(h.Objects[i].Fields, value())
			}
		}
		v, x, f := value(), value(), draw()
		heap.New(f)
		heap.Clone(h)
		heap.Alloc(h, f)
		heap.Get(h, v, f)
		heap.Set(h, v, f, x)
		heap.Reach(h, []api.Value{v, x})
		heap.Collect(h, []api.Value{v, x})
		heap.Transfer(h, v, h, true)
		heap.Check(h, []api.Value{v, x})
	}
}
