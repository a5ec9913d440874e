package span

import (
	"strconv"

	"winnow/api"
)

// Error is a fault of a text, as an error.
type Error struct {
	api.Fault
	Line, Col int
}

func (e *Error) Error() string {
	word := e.Err.Error()
	if e.Line == 0 {
		return word
	}
	return "line " + strconv.Itoa(e.Line) + ", column " + strconv.Itoa(e.Col) + ": " + word
}

func (e *Error) Unwrap() error { return e.Err }

// Error tells a fault as an error: nil, if there is none.
func (t *Text) Error(f api.Fault) error {
	if f.Err == api.OK {
		return nil
	}
	// A place that is none of the text's has line and column 0, as Spot tells beside its error.
	line, col, _ := t.Spot(f.At)
	return &Error{Fault: f, Line: line, Col: col}
}
