package code_test

import (
	"bytes"
	"reflect"
	"testing"

	"treadwheel/api"
	"treadwheel/code"
)

// tw: bytes behind the beginning of one behavior with so many instructions.
func tw(count byte, rest ...byte) []byte {
	return append([]byte{'t', 'w', 1, count}, rest...)
}

// pairs of programs and their bytes, worked out by hand.
var pairs = []struct {
	p api.Program
	b []byte
}{
	{program([]api.Instr{done}), tw(1, 0)},
	{program([]api.Instr{{Op: api.Stop}}), tw(1, 19)},
	{program([]api.Instr{done, done, {Op: api.Stop}}), tw(3, 0, 0, 19)},
	{program([]api.Instr{{Op: api.Jmp, N: 0}}), tw(1, 6, 0)},
	{program([]api.Instr{done, {Op: api.Jmp, N: -1}}), tw(2, 0, 6, 1)},
	{program([]api.Instr{{Op: api.Jz, A: 7, N: 1}, done}), tw(2, 5, 7, 2, 0)},
	{program([]api.Instr{{Op: api.Add, A: 1, B: 2}, done}), tw(2, 2, 17, 0)},
	{program([]api.Instr{{Op: api.Sub, A: 7, B: 7}, done}), tw(2, 3, 63, 0)},
	{program([]api.Instr{{Op: api.Less, A: 0, B: 7}, done}), tw(2, 4, 56, 0)},
	{program([]api.Instr{{Op: api.New, A: 3, N: 4}, done}), tw(2, 7, 3, 8, 0)},
	{program([]api.Instr{{Op: api.GetInt, A: 2, B: 1, N: 3}, done}), tw(2, 8, 10, 6, 0)},
	{program([]api.Instr{{Op: api.PutInt, A: 1, B: 2, N: 0}, done}), tw(2, 9, 17, 0, 0)},
	{program([]api.Instr{{Op: api.GetRef, A: 4, B: 5, N: 1}, done}), tw(2, 10, 44, 2, 0)},
	{program([]api.Instr{{Op: api.PutRef, A: 5, B: 4, N: 2}, done}), tw(2, 11, 37, 4, 0)},
	{program([]api.Instr{{Op: api.Move, A: 6, B: 3}, done}), tw(2, 12, 30, 0)},
	{program([]api.Instr{{Op: api.Send, A: 3, B: 6}, done}), tw(2, 13, 51, 0)},
	{program([]api.Instr{{Op: api.Copy, A: 1, B: 0}, done}), tw(2, 14, 1, 0)},
	{program([]api.Instr{{Op: api.Print, A: 5}, done}), tw(2, 15, 5, 0)},
	{program([]api.Instr{{Op: api.Self, A: 0}, done}), tw(2, 16, 0, 0)},
	{program([]api.Instr{{Op: api.Spawn, A: 2, B: 1, N: 0}, done}), tw(2, 17, 10, 0, 0)},
	{program([]api.Instr{{Op: api.Drop, A: 7}, done}), tw(2, 18, 7, 0)},
	{
		program([]api.Instr{done}, []api.Instr{{Op: api.Spawn, A: 1, B: 1, N: 2}, {Op: api.Stop}}, []api.Instr{done, done}),
		[]byte{'t', 'w', 3, 1, 0, 2, 17, 9, 4, 19, 2, 0, 0},
	},
}

// numbers and their bytes, at the edges where one more byte is needed, and at the outermost ones.
var numbers = []struct {
	n int
	b []byte
}{
	{0, []byte{0}}, {-1, []byte{1}}, {1, []byte{2}}, {-2, []byte{3}},
	{63, []byte{126}}, {-64, []byte{127}}, {64, []byte{128, 1}}, {-65, []byte{129, 1}}, {-70, []byte{139, 1}},
	{8191, []byte{254, 127}}, {-8192, []byte{255, 127}}, {8192, []byte{128, 128, 1}}, {-8193, []byte{129, 128, 1}},
	{1<<34 - 1, []byte{254, 255, 255, 255, 127}}, {1 << 34, []byte{128, 128, 128, 128, 128, 1}},
	{word, []byte{128, 128, 128, 128, 128, 64}}, {-word, []byte{255, 255, 255, 255, 255, 63}},
	{word - 1, []byte{254, 255, 255, 255, 255, 63}}, {1 - word, []byte{253, 255, 255, 255, 255, 63}},
}

// number: Li of it into register 2, as a program and as bytes.
func number(n int, b []byte) (api.Program, []byte) {
	return program([]api.Instr{{Op: api.Li, A: 2, N: n}, done}), tw(2, append(append([]byte{1, 2}, b...), 0)...)
}

func wantEncode(t *testing.T, p api.Program, want []byte) {
	t.Helper()
	if b, e := code.Encode(p); e != api.OK || !bytes.Equal(b, want) {
		t.Errorf("Encode(%v): %v, %d, want %v", p, b, e, want)
	}
}

func wantDecode(t *testing.T, b []byte, want api.Program) {
	t.Helper()
	if p, e := code.Decode(b); e != api.OK || !reflect.DeepEqual(p, want) {
		t.Errorf("Decode(%v): %v, %d, want %v", b, p, e, want)
	}
}

func wantRefused(t *testing.T, what string, b []byte, want api.Errno) {
	t.Helper()
	if p, e := code.Decode(b); e != want || len(p.Kinds) != 0 {
		t.Errorf("Decode(%v), %s: %v, %d, want %d", b, what, p, e, want)
	}
}

func TestEncodeByHand(t *testing.T) {
	for _, c := range pairs {
		wantEncode(t, c.p, c.b)
	}
	for _, c := range numbers {
		p, b := number(c.n, c.b)
		wantEncode(t, p, b)
	}
}

func TestDecodeByHand(t *testing.T) {
	for _, c := range pairs {
		wantDecode(t, c.b, c.p)
	}
	for _, c := range numbers {
		p, b := number(c.n, c.b)
		wantDecode(t, b, p)
	}
}

func TestEncodeRefusesWhatCheckRefuses(t *testing.T) {
	for _, p := range []api.Program{
		{},
		program(nil),
		program(repeat(done, 61)),
		{Kinds: make([][]api.Instr, 256)},
		program([]api.Instr{{Op: -1}}),
		program([]api.Instr{{Op: 256}}),
		program([]api.Instr{{Op: api.Print, A: 8}, done}),
		program([]api.Instr{{Op: api.Print, B: 1}, done}),
		program([]api.Instr{{Op: api.Li, N: word + 1}, done}),
		program([]api.Instr{{Op: api.Jmp, N: 1}}),
		program([]api.Instr{{Op: api.Print}}),
		program([]api.Instr{done}, []api.Instr{{Op: api.Print}}),
	} {
		want := code.Check(p)
		if b, e := code.Encode(p); want == api.OK || e != want || len(b) != 0 {
			t.Errorf("Encode(%v): %v, %d, want %d", p, b, e, want)
		}
	}
}

func TestDecodeTooManyBytes(t *testing.T) {
	wantRefused(t, "more than MaxBytes", make([]byte, 5001), api.ErrSize)
	wantRefused(t, "more than MaxBytes", append(tw(1, 0), make([]byte, 4996)...), api.ErrSize)
	wantRefused(t, "MaxBytes, of which some are left", append(tw(1, 0), make([]byte, 4995)...), api.ErrForm)
	wantRefused(t, "MaxBytes, with another beginning", make([]byte, 5000), api.ErrForm)
}

func TestDecodeTooFewBytes(t *testing.T) {
	wantRefused(t, "nil", nil, api.ErrShort)
	for _, c := range pairs {
		for i := range c.b {
			wantRefused(t, "cut off", c.b[:i], api.ErrShort)
		}
	}
	for _, c := range numbers {
		_, b := number(c.n, c.b)
		for i := range b {
			wantRefused(t, "cut off", b[:i], api.ErrShort)
		}
	}
	wantRefused(t, "255 behaviors, of which there is one", []byte{'t', 'w', 255, 1, 0}, api.ErrShort)
	wantRefused(t, "255 instructions, of which there is one", tw(255, 0), api.ErrShort)
}

func TestDecodeForm(t *testing.T) {
	for _, b := range [][]byte{{'x', 'w', 1, 1, 0}, {'t', 'x', 1, 1, 0}, {'w', 't', 1, 1, 0}, {'T', 'W', 1, 1, 0}} {
		wantRefused(t, "another beginning", b, api.ErrForm)
	}
	for _, c := range pairs {
		wantRefused(t, "a byte is left", append(append([]byte(nil), c.b...), 0), api.ErrForm)
	}
	for _, c := range []byte{64, 127, 128, 255} {
		wantRefused(t, "A and B above 63", tw(2, 2, c, 0), api.ErrForm)
		wantRefused(t, "A and B above 63, and no more", tw(2, 2, c), api.ErrForm)
		wantRefused(t, "A above 63", tw(2, 15, c, 0), api.ErrForm)
	}
}

func TestDecodeNumbersNotInForm(t *testing.T) {
	for _, l := range [][]byte{
		{128, 0}, {130, 0}, {255, 0}, {128, 128, 0}, {128, 129, 0}, {139, 129, 0}, {255, 255, 255, 255, 255, 0},
		{128, 128, 128, 128, 128, 128, 1}, {255, 255, 255, 255, 255, 255, 1}, {128, 128, 128, 128, 128, 128, 0},
		{255, 255, 255, 255, 255, 255, 255, 255, 255, 1}, {128, 128, 128, 128, 128, 128, 128, 128, 128, 128, 128, 1},
	} {
		_, b := number(0, l)
		wantRefused(t, "a number", b, api.ErrForm)
	}
	long := tw(2, 1, 2)
	wantRefused(t, "a number without end", append(long, bytes.Repeat([]byte{128}, 4900)...), api.ErrForm)
}

func TestDecodeOperatorsThatThereAreNot(t *testing.T) {
	for op := 20; op < 256; op++ {
		wantRefused(t, "no operator", tw(1, byte(op)), api.ErrKind)
		wantRefused(t, "no operator, and too short", tw(3, 0, byte(op)), api.ErrKind)
	}
}

func TestDecodeRefusesWhatCheckRefuses(t *testing.T) {
	for _, c := range []struct {
		what string
		b    []byte
		want api.Errno
	}{
		{"no behaviors", []byte{'t', 'w', 0}, api.ErrNone},
		{"7 behaviors", []byte{'t', 'w', 7, 1, 0, 1, 0, 1, 0, 1, 0, 1, 0, 1, 0, 1, 0}, api.ErrSize},
		{"255 behaviors without instructions", append([]byte{'t', 'w', 255}, make([]byte, 255)...), api.ErrSize},
		{"no instructions", tw(0), api.ErrSize},
		{"61 instructions", tw(61, make([]byte, 61)...), api.ErrSize},
		{"Li of MaxWord and 1", tw(2, 1, 0, 130, 128, 128, 128, 128, 64, 0), api.ErrRange},
		{"Li of -MaxWord less 1", tw(2, 1, 0, 129, 128, 128, 128, 128, 64, 0), api.ErrRange},
		{"Li of the greatest of six bytes", tw(2, 1, 0, 254, 255, 255, 255, 255, 127, 0), api.ErrRange},
		{"Li of the lowest of six bytes", tw(2, 1, 0, 255, 255, 255, 255, 255, 127, 0), api.ErrRange},
		{"New of no fields", tw(2, 7, 0, 0, 0), api.ErrRange},
		{"New of 5 fields", tw(2, 7, 0, 10, 0), api.ErrRange},
		{"GetInt of field -1", tw(2, 8, 0, 1, 0), api.ErrRange},
		{"Spawn of a behavior that there is not", tw(2, 17, 0, 2, 0), api.ErrRange},
		{"Jmp beside", tw(1, 6, 2), api.ErrRange},
		{"Print with B", tw(2, 15, 8, 0), api.ErrForm},
		{"Li with B", tw(2, 1, 8, 0, 0), api.ErrForm},
		{"Print at the end", tw(1, 15, 0), api.ErrShort},
	} {
		wantRefused(t, c.what, c.b, c.want)
	}
}

func TestDecodeOrder(t *testing.T) {
	for _, c := range []struct {
		what string
		b    []byte
		want api.Errno
	}{
		{"another beginning ahead of an end that is too early", []byte{'t', 'x', 1, 2, 0}, api.ErrForm},
		{"another beginning ahead of no operator", []byte{'x', 'w', 1, 1, 20}, api.ErrForm},
		{"no operator ahead of A and B above 63", tw(3, 20, 2, 64, 0), api.ErrKind},
		{"A and B above 63 ahead of no operator", tw(3, 2, 64, 20), api.ErrForm},
		{"a number ahead of no operator", tw(3, 6, 128, 0, 20), api.ErrForm},
		{"no operator ahead of bytes that are left", tw(1, 20, 0), api.ErrKind},
		{"too short ahead of what Check refuses", tw(61, 15), api.ErrShort},
		{"no operator ahead of what Check refuses", tw(61, 20), api.ErrKind},
		{"no operator in the last of 7 behaviors", []byte{'t', 'w', 7, 1, 0, 1, 0, 1, 0, 1, 0, 1, 0, 1, 0, 1, 20}, api.ErrKind},
		{"bytes that are left ahead of what Check refuses", tw(1, 15, 0, 0), api.ErrForm},
		{"bytes that are left behind no behaviors", []byte{'t', 'w', 0, 0}, api.ErrForm},
		{"A and B above 63 behind what Check refuses", tw(3, 7, 0, 0, 2, 64, 0), api.ErrForm},
	} {
		wantRefused(t, c.what, c.b, c.want)
	}
}
