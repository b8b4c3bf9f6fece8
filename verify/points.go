package verify

import "treadwheel/api"

// Registers that an actor begins a message with.
const (
	state   = 0
	message = 1
)

// point: what is known at an instruction. That nothing is known of any register is not the same as that it was never come to.
type point struct {
	come  bool
	known registers
}

// points of a behavior that may be, at the end of all rounds.
// They end: what is known of a register only ever changes from Unique to Shared, or to Unknown, and never back.
func points(behavior []api.Instr) []point {
	all := make([]point, len(behavior))
	all[0] = point{come: true, known: registers{state: api.Unique, message: api.Unique}}
	for round(behavior, all) {
	}
	return all
}

// round: does it change anything?
// Points change within it, and not at its end: what comes out hangs on which ways are joined ahead of an instruction's turn.
func round(behavior []api.Instr, all []point) bool {
	changed := false
	for place, in := range behavior {
		if !all[place].come {
			continue
		}
		next := behind(in, all[place].known)
		for _, to := range goesOnAt(in, place) {
			now := comeTo(all[to], next)
			changed = changed || now != all[to]
			all[to] = now
		}
	}
	return changed
}

// comeTo a point on one more way.
func comeTo(at point, on registers) point {
	if !at.come {
		return point{come: true, known: on}
	}
	for r := range on {
		at.known[r] = Join(at.known[r], on[r])
	}
	return at
}

// goesOnAt: the places that may be next; no jump leads beside a behavior that may be.
func goesOnAt(in api.Instr, place int) []int {
	switch in.Op {
	case api.Done, api.Stop:
		return nil
	case api.Jmp:
		return []int{place + in.N}
	case api.Jz:
		return []int{place + 1, place + in.N}
	}
	return []int{place + 1}
}
