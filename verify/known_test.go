package verify_test

import (
	"fmt"
	"math"
	"testing"

	"treadwheel/api"
	"treadwheel/verify"
)

// Kinds by short names, and all of them.
const (
	un = api.Unknown
	nu = api.Number
	sh = api.Shared
	uq = api.Unique
)

var all = []int{un, nu, sh, uq}

var (
	done = api.Instr{Op: api.Done}
	stop = api.Instr{Op: api.Stop}
)

func program(kinds ...[]api.Instr) api.Program { return api.Program{Kinds: kinds} }

// as: instructions that make a register one of that kind.
func as(r, kind int) []api.Instr {
	switch kind {
	case un:
		return []api.Instr{{Op: api.Drop, A: r}}
	case nu:
		return []api.Instr{{Op: api.Li, A: r, N: 7}}
	case sh:
		return []api.Instr{{Op: api.New, A: r, N: 1}, {Op: api.GetRef, A: r, B: r}}
	}
	return []api.Instr{{Op: api.New, A: r, N: 1}}
}

// ahead: instructions behind which that is known of the registers from 0 on, and the place behind them.
func ahead(kinds ...int) ([]api.Instr, int) {
	var l []api.Instr
	for r, k := range kinds {
		l = append(l, as(r, k)...)
	}
	return l, len(l)
}

// told: answers as one text; an empty list is told alike, be it nil or not.
func told(answers ...any) string { return fmt.Sprint(answers...) }

func wantTypes(t *testing.T, what string, p api.Program, kind int, want [][]int) {
	t.Helper()
	l, e := verify.Types(p, kind)
	if e != api.OK || len(l) != len(want) {
		t.Errorf("Types, %s: %v, %d, want %v", what, l, e, want)
		return
	}
	for place := range want {
		if told(l[place]) != told(want[place]) {
			t.Errorf("Types, %s: at %d %v, want %v", what, place, l[place], want[place])
		}
	}
}

func wantCheck(t *testing.T, what string, p api.Program, kind, place int, e api.Errno) {
	t.Helper()
	if k, i, f := verify.Check(p); k != kind || i != place || f != e {
		t.Errorf("Check, %s: %d, %d, %d, want %d, %d, %d", what, k, i, f, kind, place, e)
	}
}

func TestJoin(t *testing.T) {
	want := [4][4]int{
		un: {un, un, un, un},
		nu: {un, nu, un, un},
		sh: {un, un, sh, sh},
		uq: {un, un, sh, uq},
	}
	for _, a := range all {
		for _, b := range all {
			if got := verify.Join(a, b); got != want[a][b] {
				t.Errorf("Join(%d, %d): %d, want %d", a, b, got, want[a][b])
			}
		}
	}
}

// What is no kind is no object; two that are the same are that, whatever they are.
func TestJoinOfWhatIsNoKind(t *testing.T) {
	for _, a := range []int{-1, -2, 4, 5, math.MinInt, math.MaxInt} {
		for _, b := range []int{un, nu, sh, uq, -3, 6} {
			if verify.Join(a, b) != un || verify.Join(b, a) != un {
				t.Errorf("Join of %d and %d: %d, %d", a, b, verify.Join(a, b), verify.Join(b, a))
			}
		}
		if got := verify.Join(a, a); got != a {
			t.Errorf("Join(%d, %d): %d", a, a, got)
		}
	}
}

// A and B behind an instruction, if they are two; same: A, if B is the same register, or there is none.
var behinds = []struct {
	name string
	in   api.Instr
	do   func(a, b int) (int, int)
	same func(a int) int
}{
	{"Jz", api.Instr{Op: api.Jz, N: 1}, keep, keepOne},
	{"Li", api.Instr{Op: api.Li, N: 5}, number, numberOne},
	{"Add", api.Instr{Op: api.Add}, number, numberOne},
	{"Sub", api.Instr{Op: api.Sub}, number, numberOne},
	{"Less", api.Instr{Op: api.Less}, number, numberOne},
	{"GetInt", api.Instr{Op: api.GetInt, N: 3}, number, numberOne},
	{"Self", api.Instr{Op: api.Self}, number, numberOne},
	{"New", api.Instr{Op: api.New, N: 2}, func(a, b int) (int, int) { return uq, b }, func(a int) int { return uq }},
	{"PutInt", api.Instr{Op: api.PutInt, N: 1}, keep, keepOne},
	{"GetRef", api.Instr{Op: api.GetRef, N: 1}, func(a, b int) (int, int) { return sh, sh }, func(a int) int { return sh }},
	{"PutRef", api.Instr{Op: api.PutRef, N: 1}, putRef, func(a int) int { return sh }},
	{"Move", api.Instr{Op: api.Move}, move, keepOne},
	{"Send", api.Instr{Op: api.Send}, forget, forgetOne},
	{"Copy", api.Instr{Op: api.Copy}, keep, keepOne},
	{"Print", api.Instr{Op: api.Print}, keep, keepOne},
	{"Spawn", api.Instr{Op: api.Spawn}, func(a, b int) (int, int) { return nu, un }, numberOne},
	{"Drop", api.Instr{Op: api.Drop}, forget, forgetOne},
}

func keep(a, b int) (int, int)   { return a, b }
func keepOne(a int) int          { return a }
func number(a, b int) (int, int) { return nu, b }
func numberOne(a int) int        { return nu }
func forget(a, b int) (int, int) { return un, b }
func forgetOne(a int) int        { return un }

func putRef(a, b int) (int, int) {
	if b == sh {
		return sh, sh
	}
	return a, un
}

func move(a, b int) (int, int) {
	return b, [4]int{un, nu, sh, un}[b]
}

// hasB: all of those above have A, and not all B.
func hasB(op int) bool {
	switch op {
	case api.Jz, api.Li, api.Self, api.New, api.Print, api.Drop:
		return false
	}
	return true
}

// All registers are known to be something, so that one that changes and should not is seen.
func TestBehindEachOperator(t *testing.T) {
	for _, c := range behinds {
		for r := range 64 {
			for _, a := range all {
				for _, b := range all {
					in := c.in
					in.A, in.B = r%8, r/8
					if !hasB(in.Op) && in.B > 0 {
						continue
					}
					now := []int{sh, nu, uq, un, nu, sh, uq, nu}
					now[in.B], now[in.A] = b, a
					next := append([]int(nil), now...)
					if !hasB(in.Op) || in.A == in.B {
						next[in.A] = c.same(a)
					} else {
						next[in.A], next[in.B] = c.do(a, b)
					}
					wantBehind(t, fmt.Sprintf("%s, A is %d, B %d", c.name, in.A, in.B), in, now, next)
				}
			}
		}
	}
}

// wantBehind: that instruction alone, where the first is known, and the next one.
func wantBehind(t *testing.T, what string, in api.Instr, now, next []int) {
	t.Helper()
	l, place := ahead(now...)
	l = append(l, in, stop)
	got, e := verify.Types(program(l), 0)
	if e != api.OK || len(got) != len(l) || told(got[place]) != told(now) || told(got[place+1]) != told(next) {
		t.Errorf("%s: behind %v: %v, %d, want %v", what, now, got, e, next)
	}
}

func isObject(k int) bool { return k == sh || k == uq }

// Which kinds of A and of B an instruction may be done with.
var mays = []struct {
	name string
	in   api.Instr
	may  func(a, b int) bool
}{
	{"Li", api.Instr{Op: api.Li}, func(a, b int) bool { return true }},
	{"Add", api.Instr{Op: api.Add}, func(a, b int) bool { return a == nu && b == nu }},
	{"Sub", api.Instr{Op: api.Sub}, func(a, b int) bool { return a == nu && b == nu }},
	{"Less", api.Instr{Op: api.Less}, func(a, b int) bool { return a == nu && b == nu }},
	{"Jz", api.Instr{Op: api.Jz, N: 1}, func(a, b int) bool { return a == nu }},
	{"New", api.Instr{Op: api.New, N: 1}, func(a, b int) bool { return true }},
	{"GetInt", api.Instr{Op: api.GetInt}, func(a, b int) bool { return isObject(b) }},
	{"PutInt", api.Instr{Op: api.PutInt}, func(a, b int) bool { return isObject(a) && b == nu }},
	{"GetRef", api.Instr{Op: api.GetRef}, func(a, b int) bool { return isObject(b) }},
	{"PutRef", api.Instr{Op: api.PutRef}, func(a, b int) bool { return isObject(a) && isObject(b) }},
	{"Move", api.Instr{Op: api.Move}, func(a, b int) bool { return b != un }},
	{"Send", api.Instr{Op: api.Send}, func(a, b int) bool { return a == uq && b == nu }},
	{"Copy", api.Instr{Op: api.Copy}, func(a, b int) bool { return isObject(a) && b == nu }},
	{"Print", api.Instr{Op: api.Print}, func(a, b int) bool { return a == nu }},
	{"Self", api.Instr{Op: api.Self}, func(a, b int) bool { return true }},
	{"Spawn", api.Instr{Op: api.Spawn}, func(a, b int) bool { return b == uq }},
	{"Drop", api.Instr{Op: api.Drop}, func(a, b int) bool { return true }},
}

func wantMay(t *testing.T, what string, may bool, in api.Instr, now ...int) {
	t.Helper()
	l, place := ahead(now...)
	l = append(l, in, stop)
	if may {
		wantCheck(t, what, program(l), 0, 0, api.OK)
	} else {
		wantCheck(t, what, program(l), 0, place, api.ErrType)
	}
}

func TestWhatMayBeDone(t *testing.T) {
	for _, c := range mays {
		for _, a := range all {
			for _, b := range all {
				in := c.in
				in.A = 6
				if hasB(in.Op) {
					in.B = 3
				}
				what := fmt.Sprintf("%s with A %d and B %d", c.name, a, b)
				wantMay(t, what, c.may(a, b), in, uq, uq, uq, b, uq, uq, a)
				wantMay(t, what, c.may(a, b), in, nu, nu, nu, b, nu, nu, a)
			}
			if hasB(c.in.Op) {
				in := c.in
				in.A, in.B = 5, 5
				wantMay(t, fmt.Sprintf("%s with %d twice", c.name, a), c.may(a, a), in, un, un, un, un, un, a)
			}
		}
	}
}

// Done asks of register 0, Stop and Jmp of none, whatever the others are.
func TestWhatMayEnd(t *testing.T) {
	for _, a := range all {
		for _, b := range all {
			wantMay(t, fmt.Sprintf("Done with register 0 %d", a), isObject(a), done, a, b, b)
			wantMay(t, "Stop", true, stop, a, b, b)
			wantMay(t, "Jmp", true, api.Instr{Op: api.Jmp}, a, b, b)
		}
	}
}
