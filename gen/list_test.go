package gen_test

import (
	"fmt"
	"strings"

	"winnow/api"
)

// ops are the instructions of the chapter's table, in the order of their numbers, each with as many operands as it has.
var ops = strings.Split("end|num A|bool A|var A|len A|cap A|size|total|at A|tagx A|tagend A B C|min|max|neg|not|mul|div|add|sub|eq|lt|le|jump A|else A|loop A|turn A|quit A|again A|set A|markx A|markend A B C|insert A B|move A B|forget|take A B|give A B|tell|loose|shift A B C D|spill A B C D|evict A B|drop A B", "|")

// opOf is the number of the instruction of a name.
func opOf(name string) int {
	for op, text := range ops {
		if text == name || strings.HasPrefix(text, name+" ") {
			return op
		}
	}
	panic(name)
}

// tellInstr is how an instruction is written; what it must not have shows, too.
func tellInstr(i api.Instr) string {
	if i.Op < 0 || i.Op >= len(ops) {
		return fmt.Sprint(i)
	}
	parts := strings.Fields(ops[i.Op])
	text := parts[0]
	for at, n := range []int{i.A, i.B, i.C, i.D} {
		switch {
		case at+1 < len(parts):
			text += fmt.Sprint(" ", n)
		case n != 0:
			text += fmt.Sprint(" and ", n)
		}
	}
	return text
}

// tellCode is how code is written: "num 1, set 0, end".
func tellCode(code []api.Instr) string {
	var list []string
	for _, i := range code {
		list = append(list, tellInstr(i))
	}
	return strings.Join(list, ", ")
}
