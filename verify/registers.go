package verify

import "treadwheel/api"

// registers: what is known of each one.
type registers [api.Regs]int

func isObject(known int) bool { return known == api.Shared || known == api.Unique }

// behind an instruction, if that is known ahead of it.
func behind(in api.Instr, known registers) registers {
	switch in.Op {
	case api.Li, api.Add, api.Sub, api.Less, api.GetInt, api.Self:
		known[in.A] = api.Number
	case api.New:
		known[in.A] = api.Unique
	case api.GetRef:
		known[in.A], known[in.B] = api.Shared, api.Shared
	case api.PutRef:
		return behindPutRef(in, known)
	case api.Move:
		return behindMove(in, known)
	case api.Send, api.Drop:
		known[in.A] = api.Unknown
	case api.Spawn:
		known[in.B] = api.Unknown
		known[in.A] = api.Number // last: it stays so, if both are one
	}
	return known
}

// behindPutRef: an object that nobody else knew goes into A, and is known there alone; one that others know makes A such a one, too.
func behindPutRef(in api.Instr, known registers) registers {
	if in.A == in.B || known[in.B] == api.Shared {
		known[in.A] = api.Shared
	} else {
		known[in.B] = api.Unknown
	}
	return known
}

// behindMove: an object that nobody else knew must not be known in two registers.
func behindMove(in api.Instr, known registers) registers {
	was := known[in.B]
	if was == api.Unique {
		known[in.B] = api.Unknown
	}
	known[in.A] = was // last: it stays so, if both are one
	return known
}

// mayBeDone: may an instruction be done with what is known ahead of it?
func mayBeDone(in api.Instr, known registers) bool {
	a, b := known[in.A], known[in.B]
	switch in.Op {
	case api.Done:
		return isObject(known[state])
	case api.Add, api.Sub, api.Less:
		return a == api.Number && b == api.Number
	case api.Jz, api.Print:
		return a == api.Number
	case api.GetInt, api.GetRef:
		return isObject(b)
	case api.PutInt, api.Copy:
		return isObject(a) && b == api.Number
	case api.PutRef:
		return isObject(a) && isObject(b)
	case api.Move:
		return b != api.Unknown
	case api.Send:
		return a == api.Unique && b == api.Number
	case api.Spawn:
		return b == api.Unique
	}
	return true
}
