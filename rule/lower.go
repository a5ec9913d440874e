package rule

import (
	"slices"

	"winnow/api"
	"winnow/gram"
)

// isOf tells whether types may be a policy's: as many of each, all in their ranges.
func isOf(t api.Typed, p api.Policy) bool {
	if len(t.Vars) != len(p.Vars) || len(t.Tags) != len(p.Tags) || len(t.Rounds) != len(p.Rows) {
		return false
	}
	for _, n := range t.Rounds {
		if n < 0 || n > api.MaxLoop {
			return false
		}
	}
	return areRightVars(t.Vars) && areRightTags(t.Tags)
}

// lowering writes the acts of an event.
type lowering struct {
	policy  api.Policy
	typed   api.Typed
	caps    api.Caps
	becomes [api.NCount]becoming
	acts    []api.Act
}

// becoming writes what a row becomes, without what its kids do, and answers how many acts stand beside one another then.
type becoming func(row api.Row) int

func newLowering(p api.Policy, t api.Typed, c api.Caps) *lowering {
	l := &lowering{policy: p, typed: t, caps: c}
	l.learnDoings()
	l.learnLikes()
	l.learnLeaves()
	return l
}

func (l *lowering) plan() api.Plan {
	out := api.Plan{Vars: slices.Clone(l.typed.Vars), Tags: slices.Clone(l.typed.Tags)}
	for q, queue := range l.policy.Queues {
		out.Ghost = append(out.Ghost, queue.Ghost)
		out.On = append(out.On, l.event(l.policy.On[q]))
	}
	out.Miss = l.event(l.policy.Miss)
	return out
}

// event is what a block becomes; of none (-1): no rows.
func (l *lowering) event(at int) []api.Act {
	l.acts = nil
	if at >= 0 {
		l.block(at)
	}
	return l.acts
}

func (l *lowering) write(acts ...api.Act) { l.acts = append(l.acts, acts...) }

// row answers how many acts it has become, beside one another, and the row behind all of its own.
func (l *lowering) row(at int) (acts, behind int) {
	row := l.policy.Rows[at]
	switch row.Kind {
	case api.NBlock:
		return 1, l.block(at)
	case api.NIf:
		return 1, l.choice(at)
	case api.NLoop:
		return 1, l.loop(at)
	case api.NCall:
		l.block(l.policy.Rules[row.N])
		return 1, at + 1
	}
	return l.becomes[row.Kind](row), l.rows(row.Kids, at+1)
}

// rows answers the row behind so many and all of their own.
func (l *lowering) rows(n, at int) int {
	for range n {
		_, at = l.row(at)
	}
	return at
}

func (l *lowering) block(at int) int {
	head, kids, behind := len(l.acts), 0, at+1
	l.write(api.Act{Kind: api.RBlock})
	for range l.policy.Rows[at].Kids {
		var acts int
		acts, behind = l.row(behind)
		kids += acts
	}
	l.acts[head].Kids = kids
	return behind
}

func (l *lowering) choice(at int) int {
	kids := l.policy.Rows[at].Kids
	l.write(api.Act{Kind: api.RIf, Kids: kids})
	behind := l.rows(2, at+1)
	if kids == 2 {
		return behind
	}
	if l.policy.Rows[behind].Kind == api.NIf {
		l.write(api.Act{Kind: api.RBlock, Kids: 1})
	}
	return l.rows(1, behind)
}

// loop passes over the first kid: its number is known.
func (l *lowering) loop(at int) int {
	l.write(api.Act{Kind: api.RLoop, A: l.typed.Rounds[at], Kids: 2})
	return l.rows(2, gram.End(l.policy.Rows, at+1))
}
