package fold

import "winnow/api"

// row is an act among others. Its number of kids holds for expressions alone: a block's is counted when the acts are told.
type row struct {
	act    api.Act
	above  int   // the kind of the row above; 0: there is none
	kids   *node // the clasp of their ring
	tagged bool  // of an expression: an RTag is among its rows
}

type node = bead[row]

// tree is an event's rows.
type tree struct {
	nodes []node // by their numbers
	clasp *node  // of the ring around row 0
}

// grow takes the rows of an event of a right plan.
func grow(acts []api.Act) tree {
	nodes, clasps := make([]node, len(acts)), make([]node, len(acts)+1)
	var loose []*node // those that have no row above yet, the first one last
	for at := len(acts) - 1; at >= 0; at-- {
		n := &nodes[at]
		n.of = row{act: acts[at], kids: &clasps[at]}
		kids := loose[len(loose)-n.of.act.Kids:]
		adopt(n, kids)
		weigh(n)
		loose = append(loose[:len(loose)-len(kids)], n)
	}
	clasp := &clasps[len(acts)]
	bind(clasp, loose)
	return tree{nodes, clasp}
}

func adopt(n *node, kids []*node) {
	for _, kid := range kids {
		kid.of.above = n.of.act.Kind
	}
	bind(n.of.kids, kids)
}

// bind makes a ring of a clasp and of nodes, the first one last.
func bind(clasp *node, nodes []*node) {
	behind := clasp
	for _, n := range nodes {
		tie(n, behind)
		behind = n
	}
	tie(clasp, behind)
}

// weigh tells an expression's kids' tags on. Doings are never asked for theirs, and may have got very many kids.
func weigh(n *node) {
	if n.of.act.Kind < api.RX {
		return
	}
	n.of.tagged = n.of.act.Kind == api.RTag
	for kid := first(n); kid != n.of.kids; kid = kid.next {
		n.of.tagged = n.of.tagged || kid.of.tagged
	}
}

func kind(n *node) int { return n.of.act.Kind }

// first and second are the clasp, which is of no kind, where there are fewer kids.
func first(n *node) *node { return n.of.kids.next }

func second(n *node) *node { return first(n).next }

func isEmpty(block *node) bool { return first(block) == block.of.kids }

// blocks are those of an RIf; no is nil, if there is none.
func blocks(n *node) (yes, no *node) {
	yes = second(n)
	if yes.next == n.of.kids {
		return yes, nil
	}
	return yes, yes.next
}

// same tells whether two expressions have the same rows.
func same(a, b *node) bool {
	if a.of.act != b.of.act {
		return false
	}
	for x, y := first(a), first(b); x != a.of.kids; x, y = x.next, y.next {
		if !same(x, y) {
			return false
		}
	}
	return true
}

// acts are those that are in the tree now.
func (t tree) acts() []api.Act {
	list, _ := lay(make([]api.Act, 0, len(t.nodes)), t.clasp)
	return list
}

// lay has the rows of all in a ring behind those of a list, and tells how many are in the ring.
func lay(list []api.Act, clasp *node) ([]api.Act, int) {
	count := 0
	for n := clasp.next; n != clasp; n = n.next {
		at := len(list)
		list = append(list, n.of.act)
		list, list[at].Kids = lay(list, n.of.kids)
		count++
	}
	return list, count
}
