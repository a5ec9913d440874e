package names

import (
	"winnow/api"
	"winnow/gram"
)

// laying answers what tells how many rows a row comes to. Rules call those ahead of them alone, so that each one's sum is there before it is asked for; where the rows are none of Resolve's, a call of any other counts as one row.
func laying(p api.Policy) func(row int) int {
	var rules []int
	laid := func(row int) int {
		sum := 0
		for at, end := row, gram.End(p.Rows, row); at < end; at++ {
			sum = plus(sum, 1)
			if n := p.Rows[at].N; p.Rows[at].Kind == api.NCall && 0 <= n && n < len(rules) {
				sum = plus(sum, rules[n])
			}
		}
		return sum
	}
	for _, block := range p.Rules[:min(len(p.Rules), api.MaxRules)] {
		rules = append(rules, laid(block))
	}
	return laid
}

// plus adds numbers from 0 to MaxSum; their sum stays there.
func plus(a, b int) int { return min(a, api.MaxSum-b) + b }

// tooLarge tells the first event with which there are too many rows.
func tooLarge(p api.Policy) api.Fault {
	laid := laying(p)
	sum := 0
	for at, row := range p.Rows {
		if event(row).kind == nothing {
			continue
		}
		sum = plus(sum, laid(at+1))
		if sum > api.MaxLaid {
			return api.Fault{Err: api.ErrLarge, At: at}
		}
	}
	return api.Fault{}
}
