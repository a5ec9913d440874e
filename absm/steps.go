package absm

import "winnow/api"

// step is an instruction made ready: what is done for it is asked by do. The run goes on at the next place, unless a step says otherwise.
type step interface {
	do(r *run) api.Trap
}

// ending is IEnd.
type ending struct{}

func (ending) do(r *run) api.Trap {
	r.at = none
	return api.TNone
}

// number is one that hangs on nothing: that of INum, IBool, and a capacity.
type number struct{ n int }

func (s number) do(r *run) api.Trap {
	r.push(s.n)
	return api.TNone
}

type variable struct{ v int }

func (s variable) do(r *run) api.Trap {
	r.push(r.state.vars[s.v])
	return api.TNone
}

type length struct{ q int }

func (s length) do(r *run) api.Trap {
	r.push(r.length(s.q))
	return api.TNone
}

type total struct{}

func (total) do(r *run) api.Trap {
	r.push(r.total())
	return api.TNone
}

type isAt struct{ q int }

func (s isAt) do(r *run) api.Trap {
	r.push(asNumber(r.place == s.q))
	return api.TNone
}

func asNumber(is bool) int {
	if is {
		return 1
	}
	return 0
}

// one is a sign with one operand.
type one struct{ of func(a int) int }

func (s one) do(r *run) api.Trap {
	r.push(s.of(r.pop()))
	return api.TNone
}

// two is a sign with two operands.
type two struct{ of func(a, b int) int }

func (s two) do(r *run) api.Trap {
	b := r.pop()
	a := r.pop()
	r.push(s.of(a, b))
	return api.TNone
}

// jump is IJump, and IAgain.
type jump struct{ to int }

func (s jump) do(r *run) api.Trap {
	r.at = s.to
	return api.TNone
}

// otherwise is IElse.
type otherwise struct{ to int }

func (s otherwise) do(r *run) api.Trap {
	if r.pop() == 0 {
		r.at = s.to
	}
	return api.TNone
}

type loop struct{ rounds int }

func (s loop) do(r *run) api.Trap {
	r.loops = append(r.loops, s.rounds)
	return api.TNone
}

type turn struct{ to int }

func (s turn) do(r *run) api.Trap {
	left := &r.loops[len(r.loops)-1]
	if *left == 0 {
		r.close(s.to)
	} else {
		*left--
	}
	return api.TNone
}

type quit struct{ to int }

func (s quit) do(r *run) api.Trap {
	if r.pop() == 0 {
		r.close(s.to)
	}
	return api.TNone
}
