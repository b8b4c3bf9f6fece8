package code

import "treadwheel/api"

func appendInstr(b []byte, in api.Instr) []byte {
	op := operators[in.Op]
	b = append(b, byte(in.Op))
	if op.hasA {
		b = append(b, byte(in.A+api.Regs*in.B))
	}
	if op.hasN {
		b = appendNumber(b, in.N)
	}
	return b
}

// appendNumber to bytes: numbers below 0 take the odd places, so that small amounts of both signs are short.
func appendNumber(b []byte, n int) []byte {
	rest := 2 * n
	if n < 0 {
		rest = -2*n - 1
	}
	for rest >= 128 {
		b = append(b, byte(rest%128+128))
		rest /= 128
	}
	return append(b, byte(rest))
}
