// Package span: texts, lines, places; faults as errors. See doc/01-span.md.
package span

import (
	"slices"
	"strings"

	"winnow/api"
)

// Text is a text by its lines. The zero Text is that without bytes.
type Text struct {
	text   string
	breaks []int // the places of the bytes 10, rising
}

// New takes a text. It keeps a copy, so that the caller's bytes stay the caller's.
func New(text []byte) *Text {
	t := &Text{text: string(text)}
	for at, b := range text {
		if b == '\n' {
			t.breaks = append(t.breaks, at)
		}
	}
	return t
}

// Lines tells how many lines there are.
func (t *Text) Lines() int { return len(t.breaks) + 1 }

// Line tells a line, without its end.
func (t *Text) Line(n int) (string, api.Errno) {
	if !t.hasLine(n) {
		return "", api.ErrArg
	}
	// A piece of the text would hold all of it fast.
	return strings.Clone(t.line(n)), api.OK
}

// Spot tells the line and the column of a place; Place the place of these.
func (t *Text) Spot(at int) (line, col int, e api.Errno) {
	if at < 0 || at > len(t.text) {
		return 0, 0, api.ErrArg
	}
	// A byte 10 ends its line: the place ahead of it is that line's still.
	ahead, _ := slices.BinarySearch(t.breaks, at)
	line = ahead + 1
	return line, column(t.line(line), at-t.start(line)), api.OK
}

func (t *Text) Place(line, col int) (int, api.Errno) {
	if !t.hasLine(line) {
		return 0, api.ErrArg
	}
	off, ok := offset(t.line(line), col)
	if !ok {
		return 0, api.ErrArg
	}
	return t.start(line) + off, api.OK
}

// Mark tells a place's line, and a mark beneath it.
func (t *Text) Mark(at int) (string, api.Errno) {
	n, col, e := t.Spot(at)
	if e != api.OK {
		return "", e
	}
	line := t.line(n)
	return line + "\n" + indent(line, col) + "^", api.OK
}

func (t *Text) hasLine(n int) bool { return n >= 1 && n <= t.Lines() }

// start and end tell where a line that there is begins and ends.
func (t *Text) start(n int) int {
	if n == 1 {
		return 0
	}
	return t.breaks[n-2] + 1
}

func (t *Text) end(n int) int {
	if n == t.Lines() {
		return len(t.text)
	}
	return t.breaks[n-1]
}

func (t *Text) line(n int) string { return t.text[t.start(n):t.end(n)] }
