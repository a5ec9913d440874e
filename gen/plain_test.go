package gen_test

import (
	"slices"

	"winnow/api"
)

// bit is an instruction of code that may stand anywhere: where it goes on is told by how many places further that is.
type bit struct {
	api.Instr
	row  int
	goes bool
}

// plainCode is the chapter's table read plainly, of a tree whose first row is that one: the kids' code is made first, so that it is known how long it is.
func plainCode(x *tree, row int) []bit {
	var k [][]bit
	at := row + 1
	for _, kid := range x.kids {
		k = append(k, plainCode(kid, at))
		at += len(kid.flat())
	}
	do := func(name string, n ...int) []bit {
		n = append(n, 0, 0, 0, 0)
		return []bit{{api.Instr{Op: opOf(name), A: n[0], B: n[1], C: n[2], D: n[3]}, row, false}}
	}
	goOn := func(name string, by int) []bit { return []bit{{api.Instr{Op: opOf(name), A: by}, row, true}} }
	switch x.Kind {
	case api.RX, api.REnd:
		return nil
	case api.RBlock:
		return slices.Concat(k...)
	case api.RIf:
		if len(k) == 2 {
			return slices.Concat(k[0], goOn("else", 1+len(k[1])), k[1])
		}
		return slices.Concat(k[0], goOn("else", 1+len(k[1])+1), k[1], goOn("jump", 1+len(k[2])), k[2])
	case api.RLoop:
		c, block := len(k[0]), len(k[1])
		return slices.Concat(do("loop", x.A), goOn("turn", 1+c+1+block+1), k[0], goOn("quit", 1+block+1), k[1], goOn("again", -(block+1+c+1)))
	case api.RMark, api.RTag:
		word, item := map[int]string{api.RMark: "mark", api.RTag: "tag"}[x.Kind], x.kids[0]
		if item.Kind == api.RX {
			return append(slices.Concat(k...), do(word+"x", x.A)...)
		}
		return append(slices.Concat(k...), do(word+"end", item.A, item.B, x.A)...)
	case api.RAnd:
		return slices.Concat(k[0], goOn("else", 1+len(k[1])+1), k[1], goOn("jump", 2), do("bool", 0))
	case api.ROr:
		return slices.Concat(k[0], goOn("else", 3), do("bool", 1), goOn("jump", 1+len(k[1])), k[1])
	}
	return append(slices.Concat(k...), do(words[x.Kind-1], x.A, x.B, x.C, x.D)...)
}

// plainProgram is what Make and Origin are to tell of a right plan.
func plainProgram(p api.Plan) (x api.Program, events, rows []int) {
	add := func(event int, acts []api.Act) int {
		begin := len(x.Code)
		if len(acts) == 0 {
			return -1
		}
		root, _ := grow(acts)
		for _, b := range append(plainCode(root, 0), bit{Instr: api.Instr{Op: api.IEnd}}) {
			if b.goes {
				b.A += len(x.Code)
			}
			x.Code = append(x.Code, b.Instr)
			events, rows = append(events, event), append(rows, b.row)
		}
		return begin
	}
	x.Ghost, x.Vars, x.Tags = p.Ghost, p.Vars, p.Tags
	for q, acts := range p.On {
		x.On = append(x.On, add(q, acts))
	}
	x.Miss = add(-1, p.Miss)
	return x, events, rows
}

func sameProgram(a, b api.Program) bool {
	return slices.Equal(a.Ghost, b.Ghost) && slices.Equal(a.Vars, b.Vars) && slices.Equal(a.Tags, b.Tags) && slices.Equal(a.On, b.On) && a.Miss == b.Miss && slices.Equal(a.Code, b.Code)
}
