package span

import "strings"

// column tells the column of a place that is so many bytes behind a line's beginning.
// It counts where pieces begin, not how long they are: a rune 65533 may be three bytes that were written, or one byte that begins none.
func column(line string, off int) int {
	col := 0
	for begin := range line {
		if begin > off {
			return col
		}
		col++
	}
	if off == len(line) {
		col++
	}
	return col
}

// offset tells how many bytes of a line stand ahead of a column; false, if the line has no such column.
func offset(line string, col int) (int, bool) {
	last := 0
	for begin := range line {
		last++
		if last == col {
			return begin, true
		}
	}
	if last+1 == col {
		return len(line), true
	}
	return 0, false
}

// indent is as wide as a line's pieces ahead of a column. Tabs stay tabs, so that it is as wide wherever tabs end.
func indent(line string, col int) string {
	var b strings.Builder
	at := 1
	for _, r := range line {
		if at == col {
			break
		}
		if r == '\t' {
			b.WriteByte('\t')
		} else {
			b.WriteByte(' ')
		}
		at++
	}
	return b.String()
}
