package engine

import (
	"winnow/api"
	"winnow/code"
	"winnow/cost"
	"winnow/fold"
	"winnow/gen"
	"winnow/names"
	"winnow/room"
	"winnow/rule"
	"winnow/typed"
	"winnow/vm"
)

// judged tells a tree's policy, and what it comes to under capacities; or the first fault: At is a row's number.
func judged(rows []api.Row, c api.Caps) (api.Policy, api.Typed, api.Fault) {
	p, fault := names.Resolve(rows)
	if fault.Err != api.OK {
		return api.Policy{}, api.Typed{}, fault
	}
	t, fault := typed.Check(p, c)
	if fault.Err != api.OK {
		return api.Policy{}, api.Typed{}, fault
	}
	if _, fault = room.Judge(p, t, c); fault.Err != api.OK {
		return api.Policy{}, api.Typed{}, fault
	}
	if _, fault = cost.Bound(p, t); fault.Err != api.OK {
		return api.Policy{}, api.Typed{}, fault
	}
	return p, t, api.Fault{}
}

// placed is a row's fault, told by its place in the text. That of capacities is no row's.
func placed(fault api.Fault, places []int) api.Fault {
	if fault.Err == api.ErrCaps {
		return fault
	}
	return api.Fault{Err: fault.Err, At: places[fault.At]}
}

// build makes an engine of a policy that was judged. None of its steps refuses such a one (T2, T6): an error would be a fault of the program's own.
func build(p api.Policy, t api.Typed, c api.Caps) (*Engine, api.Errno) {
	bytes, err := compile(p, t, c)
	if err != api.OK {
		return nil, err
	}
	program, fault := code.Decode(bytes)
	if fault.Err != api.OK {
		return nil, fault.Err
	}
	machine, err := vm.New(program, c)
	if err != api.OK {
		return nil, err
	}
	return &Engine{script: &script{bytes: bytes}, machine: machine}, api.OK
}

// compile tells a policy's program, as bytes.
func compile(p api.Policy, t api.Typed, c api.Caps) ([]byte, api.Errno) {
	plan, err := rule.Lower(p, t, c)
	if err != api.OK {
		return nil, err
	}
	if plan, err = fold.Run(plan); err != api.OK {
		return nil, err
	}
	program, err := gen.Make(plan)
	if err != api.OK {
		return nil, err
	}
	return code.Encode(program)
}
