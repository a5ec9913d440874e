package rule

import "winnow/api"

// What a row is to the one above it.
const (
	doingRow = 1 << iota
	blockRow // it is a doing, too
	itemRow
	numberRow
	truthRow
)

// form is what is asked of the rows of a kind.
type form struct {
	is    int   // what they are
	kids  []int // what their kids must be, one by one
	least int   // how many kids must be there
	holds int   // 1, if what the first kid comes to is held while the second one is reckoned
	has   test
}

// test tells whether a row has numbers A, B, C and D that may be.
type test func(a api.Act) bool

func newChecker(p api.Plan) *checker {
	c := &checker{ghost: p.Ghost}
	c.formDoings(p)
	c.formPlaces()
	c.formLeaves(p)
	c.formSigns()
	return c
}

// ask says what is asked of kinds that are alike. (A block's kids are looked at apart: there may be any number.)
func (c *checker) ask(has test, is int, kinds []int, kids ...int) {
	for _, kind := range kinds {
		c.forms[kind] = form{is: is, kids: kids, least: len(kids), holds: 1, has: has}
	}
}

func (c *checker) formDoings(p api.Plan) {
	nothing := within(0, 0)
	c.ask(nothing, doingRow|blockRow, []int{api.RBlock})
	c.ask(nothing, doingRow, []int{api.RIf}, truthRow, blockRow, blockRow)
	c.forms[api.RIf].least = 2
	c.ask(within(0, api.MaxLoop), doingRow, []int{api.RLoop}, truthRow, blockRow)
	c.ask(below(len(p.Vars)), doingRow, []int{api.RSet}, numberRow)
	c.ask(below(len(p.Tags)), doingRow, []int{api.RMark}, itemRow, numberRow)
	c.ask(nothing, doingRow, []int{api.RForget, api.RTell, api.RLoose})
}

// formPlaces are those of the rows with a queue's end, or two.
func (c *checker) formPlaces() {
	isQueue := func(q int) bool { return 0 <= q && q < len(c.ghost) }
	isGhost := func(q int) bool { return isQueue(q) && c.ghost[q] }
	isResident := func(q int) bool { return isQueue(q) && !c.ghost[q] }
	c.ask(place(isQueue), doingRow, []int{api.RInsert, api.RTake, api.RGive})
	c.ask(place(isResident), doingRow, []int{api.RMove, api.REvict})
	c.ask(place(isGhost), doingRow, []int{api.RDrop})
	c.ask(places(isResident, isGhost), doingRow, []int{api.RSpill})
	c.ask(either(places(isResident, isResident), places(isGhost, isGhost)), doingRow, []int{api.RShift})
	c.ask(place(isQueue), itemRow, []int{api.REnd})
}

func (c *checker) formLeaves(p api.Plan) {
	nothing := within(0, 0)
	c.ask(nothing, itemRow, []int{api.RX})
	c.ask(within(-api.MaxNum, api.MaxNum), numberRow, []int{api.RNum})
	c.ask(within(0, 1), truthRow, []int{api.RBool})
	c.ask(below(len(p.Vars)), numberRow, []int{api.RVar})
	c.ask(below(len(p.Ghost)), numberRow, []int{api.RLen})
	c.ask(nothing, numberRow, []int{api.RTotal})
	c.ask(below(len(p.Ghost)), truthRow, []int{api.RAt})
	c.ask(below(len(p.Tags)), numberRow, []int{api.RTag}, itemRow)
}

func (c *checker) formSigns() {
	nothing := within(0, 0)
	c.ask(nothing, numberRow, []int{api.RMin, api.RMax, api.RMul, api.RDiv, api.RAdd, api.RSub}, numberRow, numberRow)
	c.ask(nothing, numberRow, []int{api.RNeg}, numberRow)
	c.ask(nothing, truthRow, []int{api.REq}, numberRow|truthRow, numberRow|truthRow)
	c.ask(nothing, truthRow, []int{api.RLt, api.RLe}, numberRow, numberRow)
	c.ask(nothing, truthRow, []int{api.RNot}, truthRow)
	c.ask(nothing, truthRow, []int{api.RAnd, api.ROr}, truthRow, truthRow)
	c.forms[api.RAnd].holds, c.forms[api.ROr].holds = 0, 0
}

// within asks for an A from lo to hi, and no other number.
func within(lo, hi int) test {
	return func(a api.Act) bool { return lo <= a.A && a.A <= hi && a.B == 0 && a.C == 0 && a.D == 0 }
}

func below(n int) test { return within(0, n-1) }

// place asks for such a queue, and an end of it.
func place(is func(q int) bool) test {
	return func(a api.Act) bool { return is(a.A) && isEnd(a.B) && a.C == 0 && a.D == 0 }
}

func places(from, to func(q int) bool) test {
	return func(a api.Act) bool { return from(a.A) && isEnd(a.B) && to(a.C) && isEnd(a.D) }
}

func either(a, b test) test {
	return func(act api.Act) bool { return a(act) || b(act) }
}

func isEnd(n int) bool { return n == api.Front || n == api.Back }
