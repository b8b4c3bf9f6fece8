package code

import "treadwheel/api"

// operator tells which of A, B and N an instruction has, and the bounds of N.
// Without N both bounds are 0, so that one question serves all operators.
type operator struct {
	hasA, hasB, hasN bool
	least, most      int
}

var operators = [api.Stop + 1]operator{
	api.Done:   {},
	api.Li:     {hasA: true, hasN: true, least: -api.MaxWord, most: api.MaxWord},
	api.Add:    {hasA: true, hasB: true},
	api.Sub:    {hasA: true, hasB: true},
	api.Less:   {hasA: true, hasB: true},
	api.Jz:     {hasA: true, hasN: true, least: -api.MaxCode, most: api.MaxCode},
	api.Jmp:    {hasN: true, least: -api.MaxCode, most: api.MaxCode},
	api.New:    {hasA: true, hasN: true, least: 1, most: api.MaxFields},
	api.GetInt: {hasA: true, hasB: true, hasN: true, most: api.MaxFields - 1},
	api.PutInt: {hasA: true, hasB: true, hasN: true, most: api.MaxFields - 1},
	api.GetRef: {hasA: true, hasB: true, hasN: true, most: api.MaxFields - 1},
	api.PutRef: {hasA: true, hasB: true, hasN: true, most: api.MaxFields - 1},
	api.Move:   {hasA: true, hasB: true},
	api.Send:   {hasA: true, hasB: true},
	api.Copy:   {hasA: true, hasB: true},
	api.Print:  {hasA: true},
	api.Self:   {hasA: true},
	api.Spawn:  {hasA: true, hasB: true, hasN: true, most: api.MaxKinds - 1},
	api.Drop:   {hasA: true},
	api.Stop:   {},
}

func isOperator(op int) bool { return 0 <= op && op < len(operators) }
