package rule

import "winnow/api"

// learnDoings has the doings that become more than one act, or none.
func (l *lowering) learnDoings() {
	take := func(row api.Row) api.Act { return api.Act{Kind: api.RTake, A: row.N, B: row.End} }
	tell, loose := api.Act{Kind: api.RTell}, api.Act{Kind: api.RLoose}
	l.becomes[api.NPass] = func(api.Row) int { return 0 }
	l.becomes[api.NShift] = func(row api.Row) int {
		l.write(take(row))
		return 2
	}
	l.becomes[api.NEvict] = func(row api.Row) int {
		l.write(take(row), tell)
		if row.Kids == 0 {
			l.write(loose)
		}
		return 3
	}
	l.becomes[api.NDrop] = func(row api.Row) int {
		l.write(take(row), loose)
		return 2
	}
	// The last of what the row above becomes.
	l.becomes[api.NPlace] = l.like(api.RGive)
}

// like is a row that becomes an act with what it names, its end, and its kids. (What a row does not use is 0.)
func (l *lowering) like(kind int) becoming {
	return func(row api.Row) int {
		l.write(api.Act{Kind: kind, A: row.N, B: row.End, Kids: row.Kids})
		return 1
	}
}

func (l *lowering) learnLikes() {
	for _, pair := range [...][2]int{
		{api.NSet, api.RSet}, {api.NMark, api.RMark}, {api.NInsert, api.RInsert}, {api.NMove, api.RMove}, {api.NForget, api.RForget},
		{api.NX, api.RX}, {api.NEndOf, api.REnd},
		{api.NNum, api.RNum}, {api.NVarOf, api.RVar}, {api.NLen, api.RLen}, {api.NTotal, api.RTotal}, {api.NAt, api.RAt}, {api.NTagOf, api.RTag},
		{api.NMin, api.RMin}, {api.NMax, api.RMax}, {api.NNeg, api.RNeg}, {api.NNot, api.RNot},
		{api.NMul, api.RMul}, {api.NDiv, api.RDiv}, {api.NAdd, api.RAdd}, {api.NSub, api.RSub},
		{api.NEq, api.REq}, {api.NLt, api.RLt}, {api.NLe, api.RLe}, {api.NAnd, api.RAnd}, {api.NOr, api.ROr},
	} {
		l.becomes[pair[0]] = l.like(pair[1])
	}
	l.becomes[api.NNe] = l.unlike(api.REq)
	l.becomes[api.NGt] = l.unlike(api.RLe)
	l.becomes[api.NGe] = l.unlike(api.RLt)
}

// unlike is a comparison that holds where that of the kind does not.
func (l *lowering) unlike(kind int) becoming {
	return func(api.Row) int {
		l.write(api.Act{Kind: api.RNot, Kids: 1}, api.Act{Kind: kind, Kids: 2})
		return 1
	}
}

// learnLeaves has the expressions without kids that hang on the capacities, or are constants.
func (l *lowering) learnLeaves() {
	constant := func(kind, n int) becoming {
		return func(api.Row) int {
			l.write(api.Act{Kind: kind, A: n})
			return 1
		}
	}
	has := func(q, n int) {
		l.write(api.Act{Kind: api.REq, Kids: 2}, api.Act{Kind: api.RLen, A: q}, api.Act{Kind: api.RNum, A: n})
	}
	l.becomes[api.NTrue] = constant(api.RBool, 1)
	l.becomes[api.NFalse] = constant(api.RBool, 0)
	l.becomes[api.NSize] = constant(api.RNum, l.caps.Size)
	l.becomes[api.NCap] = func(row api.Row) int {
		l.write(api.Act{Kind: api.RNum, A: l.caps.Queues[row.N]})
		return 1
	}
	l.becomes[api.NEmpty] = func(row api.Row) int {
		has(row.N, 0)
		return 1
	}
	l.becomes[api.NFull] = func(row api.Row) int {
		has(row.N, l.caps.Queues[row.N])
		return 1
	}
}
