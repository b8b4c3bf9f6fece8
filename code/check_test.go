package code_test

import (
	"math"
	"testing"

	"treadwheel/api"
	"treadwheel/code"
)

// parts: what an operator has, written out once more so that the table of the package is held against something.
type parts struct {
	name        string
	a, b, n     bool
	least, most int
}

const word = 1 << 40

var wanted = []parts{
	{name: "Done"},
	{name: "Li", a: true, n: true, least: -word, most: word},
	{name: "Add", a: true, b: true},
	{name: "Sub", a: true, b: true},
	{name: "Less", a: true, b: true},
	{name: "Jz", a: true, n: true, least: -60, most: 60},
	{name: "Jmp", n: true, least: -60, most: 60},
	{name: "New", a: true, n: true, least: 1, most: 4},
	{name: "GetInt", a: true, b: true, n: true, most: 3},
	{name: "PutInt", a: true, b: true, n: true, most: 3},
	{name: "GetRef", a: true, b: true, n: true, most: 3},
	{name: "PutRef", a: true, b: true, n: true, most: 3},
	{name: "Move", a: true, b: true},
	{name: "Send", a: true, b: true},
	{name: "Copy", a: true, b: true},
	{name: "Print", a: true},
	{name: "Self", a: true},
	{name: "Spawn", a: true, b: true, n: true, most: 5},
	{name: "Drop", a: true},
	{name: "Stop"},
}

var done = api.Instr{Op: api.Done}

// repeat an instruction.
func repeat(in api.Instr, times int) []api.Instr {
	var l []api.Instr
	for range times {
		l = append(l, in)
	}
	return l
}

// program of behaviors.
func program(kinds ...[]api.Instr) api.Program { return api.Program{Kinds: kinds} }

// among: a program of as many behaviors, and one of them of as many instructions, as may be; this one stands in its midst.
func among(in api.Instr) api.Program {
	l := repeat(done, 60)
	l[30] = in
	one := []api.Instr{done}
	return program(one, one, l, one, one, one)
}

// plain: an instruction of that operator that may be.
func plain(op int) api.Instr { return api.Instr{Op: op, N: max(0, wanted[op].least)} }

func wantCheck(t *testing.T, what string, p api.Program, want api.Errno) {
	t.Helper()
	if got := code.Check(p); got != want {
		t.Errorf("Check, %s: %d, want %d", what, got, want)
	}
}

func TestCheckTakesEachOperator(t *testing.T) {
	for op, w := range wanted {
		wantCheck(t, w.name, among(plain(op)), api.OK)
	}
}

func TestCheckOperatorsThatThereAreNot(t *testing.T) {
	for _, op := range []int{-1, 20, 21, 255, 256, math.MinInt, math.MaxInt} {
		wantCheck(t, "no operator", among(api.Instr{Op: op}), api.ErrKind)
		wantCheck(t, "no operator, and no register", among(api.Instr{Op: op, A: -1, B: 8, N: math.MaxInt}), api.ErrKind)
	}
}

func TestCheckRegisters(t *testing.T) {
	for op, w := range wanted {
		for r := range 8 {
			a, b := plain(op), plain(op)
			a.A, b.B = r, r
			wantA, wantB := api.OK, api.OK
			if r > 0 && !w.a {
				wantA = api.ErrForm
			}
			if r > 0 && !w.b {
				wantB = api.ErrForm
			}
			wantCheck(t, w.name+" with A", among(a), wantA)
			wantCheck(t, w.name+" with B", among(b), wantB)
		}
		for _, r := range []int{-1, 8, 9, math.MinInt, math.MaxInt} {
			a, b := plain(op), plain(op)
			a.A, b.B = r, r
			wantCheck(t, w.name+": A is no register", among(a), api.ErrRange)
			wantCheck(t, w.name+": B is no register", among(b), api.ErrRange)
		}
	}
}

func TestCheckN(t *testing.T) {
	for op, w := range wanted {
		for _, n := range []int{w.least - 1, w.most + 1, math.MinInt, math.MaxInt} {
			in := plain(op)
			in.N = n
			wantCheck(t, w.name+": N beyond its bounds", among(in), api.ErrRange)
		}
		if op == api.Jz || op == api.Jmp {
			continue // no behavior is long enough for their outermost N
		}
		for _, n := range []int{w.least, w.most} {
			in := plain(op)
			in.N = n
			wantCheck(t, w.name+": N at its bounds", among(in), api.OK)
		}
	}
}

// Within its bounds N comes behind ErrForm, beyond them ahead of it: that tells the bounds of a jump from where it leads.
func TestCheckJumpBounds(t *testing.T) {
	for _, c := range []struct {
		n    int
		want api.Errno
	}{{-61, api.ErrRange}, {-60, api.ErrForm}, {60, api.ErrForm}, {61, api.ErrRange}} {
		wantCheck(t, "Jmp with A", among(api.Instr{Op: api.Jmp, A: 1, N: c.n}), c.want)
		wantCheck(t, "Jmp with B", among(api.Instr{Op: api.Jmp, B: 1, N: c.n}), c.want)
		wantCheck(t, "Jz with B", among(api.Instr{Op: api.Jz, B: 1, N: c.n}), c.want)
	}
}

func TestCheckWhereJumpsLead(t *testing.T) {
	for _, op := range []int{api.Jz, api.Jmp} {
		for _, place := range []int{0, 1, 2, 3} {
			for to := -2; to < 8; to++ {
				l := repeat(done, 5)
				l[place] = api.Instr{Op: op, N: to - place}
				want := api.OK
				if to < 0 || to > 4 {
					want = api.ErrRange
				}
				wantCheck(t, wanted[op].name, program(l, repeat(done, 60)), want)
			}
		}
	}
	back := append(repeat(done, 59), api.Instr{Op: api.Jmp, N: -59})
	wantCheck(t, "as far back as may be", program(back), api.OK)
	on := append([]api.Instr{{Op: api.Jz, N: 59}}, repeat(done, 59)...)
	wantCheck(t, "as far on as may be", program(on), api.OK)
}

func TestCheckSpawnedBehaviors(t *testing.T) {
	for count := 1; count <= 6; count++ {
		for n := range 6 {
			kinds := make([][]api.Instr, count)
			for i := range kinds {
				kinds[i] = []api.Instr{{Op: api.Spawn, N: n}, done}
			}
			want := api.OK
			if n >= count {
				want = api.ErrRange
			}
			wantCheck(t, "Spawn", program(kinds...), want)
		}
	}
}

func TestCheckLastInstruction(t *testing.T) {
	for op, w := range wanted {
		want := api.ErrShort
		if op == api.Done || op == api.Stop || op == api.Jmp {
			want = api.OK
		}
		wantCheck(t, w.name+" alone", program([]api.Instr{plain(op)}), want)
		wantCheck(t, w.name+" at the end", program([]api.Instr{done, done, plain(op)}, []api.Instr{done}), want)
	}
}

func TestCheckSizes(t *testing.T) {
	one := []api.Instr{done}
	wantCheck(t, "nil", api.Program{}, api.ErrNone)
	wantCheck(t, "empty", api.Program{Kinds: [][]api.Instr{}}, api.ErrNone)
	wantCheck(t, "1 behavior", program(one), api.OK)
	wantCheck(t, "6 behaviors", program(one, one, one, one, one, one), api.OK)
	wantCheck(t, "7 behaviors", program(one, one, one, one, one, one, one), api.ErrSize)
	wantCheck(t, "7 behaviors, the first with no operator", program([]api.Instr{{Op: 20}}, one, one, one, one, one, one), api.ErrSize)
	wantCheck(t, "300 behaviors", api.Program{Kinds: make([][]api.Instr, 300)}, api.ErrSize)
	wantCheck(t, "60 instructions", program(one, repeat(done, 60)), api.OK)
	wantCheck(t, "61 instructions", program(one, repeat(done, 61)), api.ErrSize)
	wantCheck(t, "no instructions", program(one, nil), api.ErrSize)
	wantCheck(t, "no instructions, not nil", program([]api.Instr{}, one), api.ErrSize)
	wantCheck(t, "61 instructions without operators", program(repeat(api.Instr{Op: 20}, 61)), api.ErrSize)
}

func TestCheckOrder(t *testing.T) {
	kind := api.Instr{Op: 20}
	form := api.Instr{Op: api.Print, B: 1}
	beside := api.Instr{Op: api.Jz, N: 9}
	short := api.Instr{Op: api.Print}
	for _, c := range []struct {
		what string
		p    api.Program
		want api.Errno
	}{
		{"an instruction's fault ahead of a later behavior's size", program([]api.Instr{kind}, nil), api.ErrKind},
		{"a behavior's size ahead of a later instruction's fault", program(nil, []api.Instr{kind}), api.ErrSize},
		{"the end of one behavior ahead of the next one's fault", program([]api.Instr{short}, []api.Instr{kind}), api.ErrShort},
		{"the first instruction's form", program([]api.Instr{form, kind, done}), api.ErrForm},
		{"the first instruction's operator", program([]api.Instr{kind, form, done}), api.ErrKind},
		{"a jump beside ahead of the next one's operator", program([]api.Instr{beside, kind, done}), api.ErrRange},
		{"a jump beside ahead of a missing end", program([]api.Instr{done, beside}), api.ErrRange},
		{"form ahead of a jump beside", program([]api.Instr{{Op: api.Jz, B: 1, N: 9}, done}), api.ErrForm},
		{"form ahead of a missing end", program([]api.Instr{form}), api.ErrForm},
		{"N ahead of form", program([]api.Instr{{Op: api.Print, B: 1, N: 1}, done}), api.ErrRange},
		{"a register that is none ahead of form", program([]api.Instr{{Op: api.Print, A: 8, B: 1}, done}), api.ErrRange},
		{"a behavior to spawn that is not there ahead of a missing end", program([]api.Instr{{Op: api.Spawn, N: 1}}), api.ErrRange},
	} {
		wantCheck(t, c.what, c.p, c.want)
	}
}
