package actor

import (
	"slices"

	"treadwheel/api"
)

// act that may be; of an actor that there is not yet nothing is done.
func act(p api.Program, w *api.World, a api.Act) {
	if a.Actor >= len(w.Actors) {
		return
	}
	switch a.Kind {
	case api.Step:
		step(p, w, a.Actor)
	case api.Collect:
		clearUp(&w.Actors[a.Actor])
	case api.Tell:
		tell(w, a.Actor, a.N, a.M)
	}
}

func step(p api.Program, w *api.World, who int) {
	if !lives(w, who) {
		return
	}
	a := &w.Actors[who]
	if a.Pc == waiting {
		takeMessage(a)
		return
	}
	in := p.Kinds[a.Kind][a.Pc]
	a.Pc = next(a, in)
	if way := perform(w, who, in); way != api.Lives {
		end(w, who, way)
	}
}

func takeMessage(a *api.Actor) {
	if len(a.Box) == 0 {
		return
	}
	a.Regs[1] = a.Box[0]
	a.Box = slices.Delete(a.Box, 0, 1)
	a.Pc = 0
}

// next place: where an actor goes on, if the instruction doesn't end it.
func next(a *api.Actor, in api.Instr) int {
	switch {
	case in.Op == api.Done:
		return waiting
	case in.Op == api.Jmp, in.Op == api.Jz && a.Regs[in.A] == number(0):
		return a.Pc + in.N
	}
	return a.Pc + 1
}
