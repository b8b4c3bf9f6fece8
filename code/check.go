package code

import "treadwheel/api"

// checkBehavior of a program that has so many behaviors.
func checkBehavior(behavior []api.Instr, kinds int) api.Errno {
	if len(behavior) < 1 || len(behavior) > api.MaxCode {
		return api.ErrSize
	}
	for place, in := range behavior {
		if e := checkParts(in); e != api.OK {
			return e
		}
		if leadsBeside(in, place, len(behavior)) || in.Op == api.Spawn && in.N >= kinds {
			return api.ErrRange
		}
		if place == len(behavior)-1 && goesOn(in.Op) {
			return api.ErrShort
		}
	}
	return api.OK
}

// checkParts of an instruction, wherever it stands.
func checkParts(in api.Instr) api.Errno {
	if !isOperator(in.Op) {
		return api.ErrKind
	}
	op := operators[in.Op]
	if !isRegister(in.A) || !isRegister(in.B) || in.N < op.least || in.N > op.most {
		return api.ErrRange
	}
	if in.A != 0 && !op.hasA || in.B != 0 && !op.hasB {
		return api.ErrForm
	}
	return api.OK
}

func isRegister(r int) bool { return 0 <= r && r < api.Regs }

// leadsBeside: a jump from that place leaves a behavior of that length.
// N is within its bounds by then, so that the sum can't wrap round.
func leadsBeside(in api.Instr, place, length int) bool {
	if in.Op != api.Jz && in.Op != api.Jmp {
		return false
	}
	to := place + in.N
	return to < 0 || to >= length
}

// goesOn: behind such an instruction the next one may be done, so it can't be the last.
func goesOn(op int) bool {
	return op != api.Done && op != api.Stop && op != api.Jmp
}
