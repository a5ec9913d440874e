package verify

import "winnow/api"

// costsOf tells the fuel of each event of a program that was gone through, or the first event that may take too much.
func costsOf(p api.Program) (api.Costs, api.Fault) {
	fuel, events := fuelOf(p.Code), eventsOf(p)
	costs := make([]int, len(events))
	for event, at := range events {
		if at == nowhere {
			continue
		}
		if fuel[at] > api.MaxFuel {
			return api.Costs{}, api.Fault{Err: api.ErrFuel, At: at}
		}
		costs[event] = fuel[at]
	}
	miss := len(p.On)
	return api.Costs{On: costs[:miss:miss], Miss: costs[miss]}, api.Fault{}
}

// fuelOf tells that of each place; only IAgain goes back, and what is behind it its ILoop counts.
func fuelOf(code []api.Instr) []int {
	fuel := make([]int, len(code))
	for at := len(code) - 1; at >= 0; at-- {
		fuel[at] = sum(1, fuelBehind(code, fuel, at))
	}
	return fuel
}

// fuelBehind tells what is taken behind the instruction at a place.
func fuelBehind(code []api.Instr, fuel []int, at int) int {
	i := code[at]
	switch i.Op {
	case api.IEnd, api.IAgain:
		return 0
	case api.IJump:
		return fuel[i.A]
	case api.IElse:
		return max(fuel[at+1], fuel[i.A])
	case api.ILoop:
		rounds := times(i.A, sum(1, fuel[at+2]))
		return sum(rounds, sum(1, fuel[code[at+1].A]))
	}
	return fuel[at+1]
}

// sum tells that of two numbers from 0 to MaxSum.
func sum(a, b int) int {
	if a > api.MaxSum-b {
		return api.MaxSum
	}
	return a + b
}

// times tells the product of two numbers from 0 to MaxSum.
func times(a, b int) int {
	if a > 0 && b > api.MaxSum/a {
		return api.MaxSum
	}
	return a * b
}
