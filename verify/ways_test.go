package verify_test

import (
	"math"
	"testing"

	"treadwheel/api"
	"treadwheel/code"
	"treadwheel/verify"
)

// start: what is known at the first instruction.
var start = []int{uq, uq, un, un, un, un, un, un}

// never: what is known where nobody comes to.
var never []int

// TestTypesByHand: ways through a behavior, worked out by hand.
func TestTypesByHand(t *testing.T) {
	for _, c := range []struct {
		what string
		l    []api.Instr
		want [][]int
	}{
		{"one instruction", []api.Instr{done}, [][]int{start}},
		{"nothing goes on behind Done", []api.Instr{done, done}, [][]int{start, never}},
		{"nothing goes on behind Stop", []api.Instr{stop, done}, [][]int{start, never}},
		{"Jmp to itself", []api.Instr{{Op: api.Jmp}, done}, [][]int{start, never}},
		{"Jmp leads over", []api.Instr{{Op: api.Jmp, N: 2}, done, stop}, [][]int{start, never, start}},
		{"Jz to itself", []api.Instr{{Op: api.Jz}, done}, [][]int{start, start}},
		{"Jz to the next one", []api.Instr{{Op: api.Jz, N: 1}, done, done}, [][]int{start, start, never}},
		{"Jz to both", []api.Instr{{Op: api.Jz, N: 3}, done, done, done}, [][]int{start, start, never, start}},
		{
			"nothing is known of any register, and yet it goes on",
			[]api.Instr{{Op: api.Drop}, {Op: api.Drop, A: 1}, {Op: api.Jmp, N: 1}, done},
			[][]int{start, {un, uq, un, un, un, un, un, un}, {un, un, un, un, un, un, un, un}, {un, un, un, un, un, un, un, un}},
		},
		{
			"what is never come to tells nothing to where it leads",
			[]api.Instr{{Op: api.Jmp, N: 3}, {Op: api.Drop, A: 1}, {Op: api.Jmp, N: 1}, done},
			[][]int{start, never, never, start},
		},
		{
			"two ways are joined",
			[]api.Instr{{Op: api.Self, A: 2}, {Op: api.Jz, A: 2, N: 3}, {Op: api.GetRef, A: 3, B: 1}, {Op: api.Drop, A: 2}, done},
			[][]int{
				start,
				{uq, uq, nu, un, un, un, un, un},
				{uq, uq, nu, un, un, un, un, un},
				{uq, sh, nu, sh, un, un, un, un},
				{uq, sh, un, un, un, un, un, un},
			},
		},
		{
			"a way back to the first instruction",
			[]api.Instr{{Op: api.Jz, A: 2, N: 3}, {Op: api.Li, A: 1, N: 1}, {Op: api.Jmp, N: -2}, done},
			[][]int{
				{uq, un, un, un, un, un, un, un},
				{uq, un, un, un, un, un, un, un},
				{uq, nu, un, un, un, un, un, un},
				{uq, un, un, un, un, un, un, un},
			},
		},
	} {
		wantTypes(t, c.what, program(c.l), 0, c.want)
	}
}

// Move of an object that nobody knows forgets it, of another one it does not: so it tells at which turn the ways are joined.
func TestWaysAreJoinedAheadOfTheTurn(t *testing.T) {
	l := []api.Instr{
		{Op: api.New, A: 2, N: 1},
		{Op: api.Li, A: 3},
		{Op: api.Jz, A: 3, N: 2},
		{Op: api.GetRef, A: 4, B: 2},
		{Op: api.Move, A: 5, B: 2},
		done,
	}
	wantTypes(t, "on", program(l), 0, [][]int{
		start,
		{uq, uq, uq, un, un, un, un, un},
		{uq, uq, uq, nu, un, un, un, un},
		{uq, uq, uq, nu, un, un, un, un},
		{uq, uq, sh, nu, un, un, un, un},
		{uq, uq, sh, nu, un, sh, un, un},
	})
}

// What came there in an earlier round stays joined, though the same way tells otherwise by now.
func TestWhatCameInAnEarlierRoundStays(t *testing.T) {
	l := []api.Instr{
		{Op: api.New, A: 2, N: 1},
		{Op: api.Move, A: 5, B: 2},
		{Op: api.New, A: 2, N: 1},
		{Op: api.GetRef, A: 4, B: 2},
		{Op: api.Li, A: 3},
		{Op: api.Jz, A: 3, N: -4},
		done,
	}
	wantTypes(t, "back", program(l), 0, [][]int{
		start,
		{uq, uq, sh, un, un, un, un, un},
		{uq, uq, un, un, un, sh, un, un},
		{uq, uq, uq, un, un, sh, un, un},
		{uq, uq, sh, un, sh, sh, un, un},
		{uq, uq, sh, nu, sh, sh, un, un},
		{uq, uq, sh, nu, sh, sh, un, un},
	})
}

// PutRef is such a one, too: what B was at its first turn is not taken back.
func TestPutRefInAnEarlierRoundStays(t *testing.T) {
	l := []api.Instr{
		{Op: api.New, A: 2, N: 1},
		{Op: api.PutRef, A: 1, B: 2},
		{Op: api.New, A: 2, N: 1},
		{Op: api.PutRef, A: 2, B: 2},
		{Op: api.Li, A: 3},
		{Op: api.Jz, A: 3, N: -4},
		done,
	}
	wantTypes(t, "back", program(l), 0, [][]int{
		start,
		{uq, sh, sh, un, un, un, un, un},
		{uq, sh, un, un, un, un, un, un},
		{uq, sh, uq, un, un, un, un, un},
		{uq, sh, sh, un, un, un, un, un},
		{uq, sh, sh, nu, un, un, un, un},
		{uq, sh, sh, nu, un, un, un, un},
	})
}

// back: Jmp to the last instruction, and from there one by one back to the second, each of which forgets nothing: a round for each of them.
func back(length int) []api.Instr {
	l := []api.Instr{{Op: api.Jmp, N: length - 1}, done}
	for len(l) < length {
		l = append(l, api.Instr{Op: api.Jmp, N: -1})
	}
	return l
}

func TestAsManyRoundsAsItTakes(t *testing.T) {
	l := back(60)
	var want [][]int
	for range l {
		want = append(want, start)
	}
	wantTypes(t, "backwards", program(l), 0, want)
	l[1] = api.Instr{Op: api.Print, A: 1}
	l[2] = stop
	want[1] = never
	wantTypes(t, "backwards, and not to the last one", program(l), 0, want)
	wantCheck(t, "never come to", program(l), 0, 0, api.OK)
	l[2] = api.Instr{Op: api.Jmp, N: -1}
	wantCheck(t, "come to in the last round", program(l), 0, 1, api.ErrType)
}

// A ring in which registers hand on what they are: in each round one more is forgotten.
func TestRingOfMoves(t *testing.T) {
	l, place := ahead(uq, nu, nu, nu, nu, nu, nu, nu)
	for r := 1; r < 7; r++ {
		l = append(l, api.Instr{Op: api.Move, A: r, B: r + 1})
	}
	l = append(l, api.Instr{Op: api.Drop, A: 7}, api.Instr{Op: api.Jz, A: 1, N: -7}, done)
	got, e := verify.Types(program(l), 0)
	if e != api.OK || len(got) != len(l) {
		t.Fatalf("Types: %v, %d", got, e)
	}
	for _, known := range got[place:] {
		if want := []int{uq, un, un, un, un, un, un, un}; told(known) != told(want) {
			t.Errorf("in the ring %v, want %v", known, want)
		}
	}
	wantCheck(t, "Move of what is forgotten by then", program(l), 0, place, api.ErrType)
}

// Behaviors know nothing of each other, not even one that begins the other.
func TestTypesOfEachBehavior(t *testing.T) {
	p := program(
		[]api.Instr{{Op: api.Drop}, stop},
		[]api.Instr{{Op: api.Spawn, A: 4, B: 1}, done},
		[]api.Instr{done},
	)
	wantTypes(t, "the first", p, 0, [][]int{start, {un, uq, un, un, un, un, un, un}})
	wantTypes(t, "the second", p, 1, [][]int{start, {uq, un, un, un, nu, un, un, un}})
	wantTypes(t, "the third", p, 2, [][]int{start})
}

// Types tells what is known in programs that are not verified, too.
func TestTypesOfWhatIsNotVerified(t *testing.T) {
	p := program([]api.Instr{{Op: api.Add, A: 1, B: 5}, {Op: api.GetRef, A: 0, B: 1}, done}, []api.Instr{{Op: api.Print}, done})
	wantTypes(t, "not verified", p, 0, [][]int{start, {uq, nu, un, un, un, un, un, un}, {sh, sh, un, un, un, un, un, un}})
}

func TestTypesNoSuchBehavior(t *testing.T) {
	one := []api.Instr{done}
	for count := 1; count <= 6; count++ {
		p := program()
		for range count {
			p.Kinds = append(p.Kinds, one)
		}
		for _, kind := range []int{-1, count, count + 1, 6, math.MinInt, math.MaxInt} {
			if l, e := verify.Types(p, kind); e != api.ErrNone || len(l) != 0 {
				t.Errorf("Types of behavior %d of %d: %v, %d", kind, count, l, e)
			}
		}
		for kind := range count {
			wantTypes(t, "one of some", p, kind, [][]int{start})
		}
	}
}

// refused: programs that code's Check refuses, and what it says of them; some of them have a register that may not be used ahead of that.
var refused = []struct {
	p    api.Program
	want api.Errno
}{
	{api.Program{}, api.ErrNone},
	{api.Program{Kinds: [][]api.Instr{}}, api.ErrNone},
	{api.Program{Kinds: make([][]api.Instr, 7)}, api.ErrSize},
	{program(nil), api.ErrSize},
	{program([]api.Instr{done}, nil), api.ErrSize},
	{program(make([]api.Instr, 61)), api.ErrSize},
	{program([]api.Instr{{Op: 20}}), api.ErrKind},
	{program([]api.Instr{{Op: -1}, done}), api.ErrKind},
	{program([]api.Instr{{Op: api.Print, A: 8}, done}), api.ErrRange},
	{program([]api.Instr{{Op: api.Move, A: -1}, done}), api.ErrRange},
	{program([]api.Instr{{Op: api.Add, B: math.MaxInt}, done}), api.ErrRange},
	{program([]api.Instr{{Op: api.Jmp, N: 1}}), api.ErrRange},
	{program([]api.Instr{{Op: api.Jz, N: -1}, done}), api.ErrRange},
	{program([]api.Instr{{Op: api.Print, A: 3}, {Op: api.Spawn, N: 1}, done}), api.ErrRange},
	{program([]api.Instr{{Op: api.Print, B: 1}, done}), api.ErrForm},
	{program([]api.Instr{{Op: api.Print, A: 3}}), api.ErrShort},
	{program([]api.Instr{{Op: api.Print, A: 3}, done}, []api.Instr{{Op: api.Li}}), api.ErrShort},
}

func TestWhatCodeRefuses(t *testing.T) {
	for _, c := range refused {
		if e := code.Check(c.p); e != c.want {
			t.Fatalf("code's Check(%v): %d, want %d", c.p, e, c.want)
		}
		wantCheck(t, "refused", c.p, 0, 0, c.want)
		for _, kind := range []int{-1, 0, 1, 7, math.MinInt, math.MaxInt} {
			if l, e := verify.Types(c.p, kind); e != c.want || len(l) != 0 {
				t.Errorf("Types(%v, %d): %v, %d, want %d", c.p, kind, l, e, c.want)
			}
		}
	}
}

func TestCheckTellsTheFirstOne(t *testing.T) {
	good := []api.Instr{{Op: api.GetInt, A: 2, B: 1}, {Op: api.Print, A: 2}, done}
	bad := []api.Instr{{Op: api.Self, A: 3}, {Op: api.Print, A: 3}, {Op: api.Print, A: 4}, {Op: api.Print, A: 1}, done}
	worse := []api.Instr{{Op: api.Print, A: 4}, done}
	for _, c := range []struct {
		what        string
		p           api.Program
		kind, place int
		e           api.Errno
	}{
		{"a good one", program(good), 0, 0, api.OK},
		{"six good ones", program(good, good, good, good, good, good), 0, 0, api.OK},
		{"a bad one", program(bad), 0, 2, api.ErrType},
		{"a bad one behind a good one", program(good, bad), 1, 2, api.ErrType},
		{"the first of two", program(good, bad, worse), 1, 2, api.ErrType},
		{"the first of two, the other way round", program(good, good, worse, bad), 2, 0, api.ErrType},
		{"the last of six", program(good, good, good, good, good, bad), 5, 2, api.ErrType},
		{"behind Done", program([]api.Instr{done, {Op: api.Print, A: 4}, done}), 0, 0, api.OK},
		{"behind Jmp", program([]api.Instr{{Op: api.Jmp, N: 2}, {Op: api.Print, A: 4}, done}), 0, 0, api.OK},
		{"Send, and used then", program([]api.Instr{{Op: api.Self, A: 2}, {Op: api.Send, A: 0, B: 2}, {Op: api.GetInt, A: 3, B: 0}, done}), 0, 2, api.ErrType},
		{"Send, and Done without a state", program([]api.Instr{{Op: api.Self, A: 2}, {Op: api.Send, A: 0, B: 2}, done}), 0, 2, api.ErrType},
		{"Send, and a new state", program([]api.Instr{{Op: api.Self, A: 2}, {Op: api.Send, A: 0, B: 2}, {Op: api.New, A: 0, N: 1}, done}), 0, 0, api.OK},
		{"the order of places, not of ways", program([]api.Instr{{Op: api.Jmp, N: 3}, {Op: api.Print, A: 4}, done, {Op: api.Print, A: 5}, {Op: api.Jmp, N: -3}}), 0, 1, api.ErrType},
	} {
		wantCheck(t, c.what, c.p, c.kind, c.place, c.e)
	}
}
