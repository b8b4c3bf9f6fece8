package actor_test

import (
	"slices"

	"treadwheel/api"
)

// A second working-out of the whole, otherwise: objects are known by their addresses, so that nothing is ever renamed.

type thing struct {
	fields []item
	dead   bool
}

// item: a value; of a Ref it is the object.
type item struct {
	kind, n int
	to      *thing
}

type player struct {
	api.Actor // what is no value and no list
	things    []*thing
	regs, box []item
}

type theatre struct {
	p       api.Program
	players []*player
	prints  []api.Told
}

func items(l []api.Value, things []*thing) []item {
	var out []item
	for _, v := range l {
		if v.Kind == api.Ref {
			out = append(out, item{kind: api.Ref, to: things[v.N]})
			continue
		}
		out = append(out, item{kind: v.Kind, n: v.N})
	}
	return out
}

func values(l []item, things []*thing) []api.Value {
	var out []api.Value
	for _, v := range l {
		if v.kind == api.Ref {
			v.n = slices.Index(things, v.to)
		}
		out = append(out, api.Value{Kind: v.kind, N: v.n})
	}
	return out
}

// staged: a world as a theatre.
func staged(p api.Program, w api.World) *theatre {
	s := &theatre{p: p, prints: slices.Clone(w.Prints)}
	for _, a := range w.Actors {
		q := &player{Actor: a}
		for range a.Heap.Objects {
			q.things = append(q.things, &thing{})
		}
		for i, o := range a.Heap.Objects {
			*q.things[i] = thing{items(o.Fields, q.things), o.Dead}
		}
		q.regs, q.box = items(a.Regs, q.things), items(a.Box, q.things)
		s.players = append(s.players, q)
	}
	return s
}

// world of a theatre.
func (s *theatre) world() api.World {
	w := api.World{Prints: s.prints}
	for _, q := range s.players {
		a := q.Actor
		a.Regs, a.Box, a.Heap.Objects = values(q.regs, q.things), values(q.box, q.things), nil
		for _, o := range q.things {
			a.Heap.Objects = append(a.Heap.Objects, api.Object{Fields: values(o.fields, q.things), Dead: o.dead})
		}
		w.Actors = append(w.Actors, a)
	}
	return w
}

// known things: row by row.
func known(row []item) []*thing {
	var come []*thing
	for len(row) > 0 {
		var next []item
		for _, v := range row {
			if v.kind == api.Ref && !slices.Contains(come, v.to) {
				come = append(come, v.to)
				next = append(next, v.to.fields...)
			}
		}
		row = next
	}
	return come
}

func (q *player) sweep() {
	kept := known(append(slices.Clone(q.regs), q.box...))
	q.things = slices.DeleteFunc(slices.Clone(q.things), func(o *thing) bool { return !slices.Contains(kept, o) })
}

// room for so many, if need be by clearing up.
func (q *player) room(n int) bool {
	if len(q.things)+n > q.Heap.Most {
		q.sweep()
	}
	return len(q.things)+n <= q.Heap.Most
}

func (s *theatre) open(n int) bool {
	return n >= 0 && n < len(s.players) && s.players[n].End == api.Lives && len(s.players[n].box) < 6
}

func (s *theatre) tell(to, n, m int) {
	if !s.open(to) || !s.players[to].room(1) {
		return
	}
	q := s.players[to]
	q.things = append(q.things, &thing{fields: []item{{kind: api.Int, n: n}, {kind: api.Int, n: m}}})
	q.box = append(q.box, item{kind: api.Ref, to: q.things[len(q.things)-1]})
}

func (s *theatre) act(a api.Act) {
	if a.Actor >= len(s.players) {
		return
	}
	q := s.players[a.Actor]
	switch {
	case a.Kind == api.Collect:
		q.sweep()
	case a.Kind == api.Tell:
		s.tell(a.Actor, a.N, a.M)
	case q.End != api.Lives:
	case q.Pc >= 0:
		if way := s.play(a.Actor, s.p.Kinds[q.Kind][q.Pc]); way != api.Lives {
			q.regs, q.box, q.things, q.Pc, q.End = make([]item, 8), nil, nil, -1, way
			s.tell(q.Parent, a.Actor, way)
		}
	case len(q.box) > 0:
		q.regs[1], q.box, q.Pc = q.box[0], q.box[1:], 0
	}
}

// play an instruction: the way in which it ends.
func (s *theatre) play(who int, in api.Instr) int {
	q := s.players[who]
	a, b := &q.regs[in.A], &q.regs[in.B]
	asks := map[int]string{ // of A and B: n: a number, o: an object, l: one that is not dead, all that it leads to neither
		api.Add: "nn", api.Sub: "nn", api.Less: "nn", api.Jz: "n.", api.Print: "n.", api.Send: "ln", api.Copy: "ln", api.Done: "o.",
	}[in.Op]
	for i, x := range []item{*a, *b} {
		switch {
		case asks == "":
		case asks[i] == 'n' && x.kind != api.Int, (asks[i] == 'o' || asks[i] == 'l') && x.kind != api.Ref, asks[i] == 'l' && spoilt(x):
			return api.Broken
		}
	}
	q.Pc++
	switch in.Op {
	case api.Done:
		q.regs, q.Pc = append([]item{q.regs[0]}, make([]item, 7)...), -1
	case api.Stop:
		return api.Stopped
	case api.Li:
		*a = item{kind: api.Int, n: in.N}
	case api.Self:
		*a = item{kind: api.Int, n: who}
	case api.Move:
		*a = *b
	case api.Drop:
		*a = item{}
	case api.Jmp:
		q.Pc += in.N - 1
	case api.Jz:
		if a.n == 0 {
			q.Pc += in.N - 1
		}
	case api.Add, api.Sub, api.Less:
		return count(in.Op, a, *b)
	case api.Print:
		if len(s.prints) < 500 {
			s.prints = append(s.prints, api.Told{Actor: who, N: a.n})
		}
	case api.New:
		if !q.room(1) {
			return api.NoRoom
		}
		q.things = append(q.things, &thing{fields: make([]item, in.N)})
		*a = item{kind: api.Ref, to: q.things[len(q.things)-1]}
	case api.GetInt, api.GetRef, api.PutInt, api.PutRef:
		return field(in, a, b)
	case api.Send, api.Copy:
		s.post(who, b.n, a, in.Op == api.Send)
	case api.Spawn:
		return s.bear(who, in, a, b)
	}
	return api.Lives
}

// spoilt: something that it leads to is dead.
func spoilt(v item) bool {
	return slices.ContainsFunc(known([]item{v}), func(o *thing) bool { return o.dead })
}

func count(op int, a *item, b item) int {
	n := map[int]int{api.Add: a.n + b.n, api.Sub: a.n - b.n}[op]
	if op == api.Less && a.n < b.n {
		n = 1
	}
	if n > word || n < -word {
		return api.NoNumber
	}
	a.n = n
	return api.Lives
}

// field of an object: got, or put.
func field(in api.Instr, a, b *item) int {
	gets, kind, of := in.Op == api.GetInt || in.Op == api.GetRef, api.Int, a
	if in.Op == api.GetRef || in.Op == api.PutRef {
		kind = api.Ref
	}
	if gets {
		of = b
	}
	if of.kind != api.Ref || of.to.dead {
		return api.Broken
	}
	if in.N >= len(of.to.fields) {
		return api.NoField
	}
	f := &of.to.fields[in.N]
	switch {
	case gets && f.kind != kind && kind == api.Int:
		return api.NoInt
	case gets && f.kind != kind:
		return api.NoRef
	case gets:
		*a = *f
	case b.kind != kind:
		return api.Broken
	default:
		*f = *b
	}
	return api.Lives
}

// twins of things, that know each other as these do.
func twins(l []*thing) []*thing {
	out := make([]*thing, len(l))
	for i := range l {
		out[i] = &thing{}
	}
	for i, o := range l {
		out[i].fields = slices.Clone(o.fields)
		for f, v := range o.fields {
			if v.kind == api.Ref {
				out[i].fields[f].to = out[slices.Index(l, v.to)]
			}
		}
	}
	return out
}

func kill(l []*thing) {
	for _, o := range l {
		*o = thing{dead: true}
	}
}

// post what a register leads to.
func (s *theatre) post(who, to int, a *item, moved bool) {
	v := *a
	if moved {
		*a = item{}
	}
	if !s.open(to) {
		return
	}
	q := s.players[to]
	if moved && who == to {
		q.box = append(q.box, v)
		return
	}
	l := known([]item{v})
	if !q.room(len(l)) {
		return
	}
	l2 := twins(l)
	if moved {
		kill(l)
	}
	q.things = append(q.things, l2...)
	q.box = append(q.box, item{kind: api.Ref, to: l2[0]})
}

// bear a new one.
func (s *theatre) bear(who int, in api.Instr, a, b *item) int {
	if b.kind == api.Ref && len(s.players) == 8 {
		return api.NoActors
	}
	if b.kind != api.Ref || spoilt(*b) {
		return api.Broken
	}
	l := known([]item{*b})
	q := &player{Actor: api.Actor{Kind: in.N, Parent: who, Pc: -1, Heap: api.Heap{Most: s.players[who].Heap.Most}}, things: twins(l)}
	q.regs = append([]item{{kind: api.Ref, to: q.things[0]}}, make([]item, 7)...)
	kill(l)
	*b = item{}
	*a = item{kind: api.Int, n: len(s.players)}
	s.players = append(s.players, q)
	return api.Lives
}
