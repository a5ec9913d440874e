package show

import (
	"strings"

	"winnow/api"
	"winnow/gram"
)

// begun is a row with some of its texts written already.
type begun struct {
	kind    int
	texts   []string // those around its kids: one more than it has kids
	written int      // how many of them
}

// flat tells a tree's text without its tabs, and without a byte 10 at its end. The rows that are begun lie on a list, not in a recursion, since a tree may be as deep as it has rows.
func flat(tree []api.Row) string {
	var text strings.Builder
	var way []begun
	table := shapes()
	for _, row := range tree {
		texts := table[row.Kind](row)
		if isLoose(way, row.Kind) {
			texts = bracketed(texts)
		}
		way = append(way, begun{kind: row.Kind, texts: texts})
		way = written(way, &text)
	}
	return text.String()
}

// isLoose tells whether a row of that kind, as the next kid at the end of the way, stands in brackets.
func isLoose(way []begun, kind int) bool {
	if len(way) == 0 {
		return false
	}
	over := way[len(way)-1]
	return gram.Loose(over.kind, over.written-1, kind)
}

func bracketed(texts []string) []string {
	texts[0] = "(" + texts[0]
	texts[len(texts)-1] += ")"
	return texts
}

// written writes what stands ahead of the next kid, and answers the way to it.
func written(way []begun, text *strings.Builder) []begun {
	for len(way) > 0 {
		last := &way[len(way)-1]
		text.WriteString(last.texts[last.written])
		last.written++
		if last.written < len(last.texts) {
			break
		}
		way = way[:len(way)-1]
	}
	return way
}
