package lab

import (
	"strconv"

	"winnow/api"
	"winnow/span"
)

// answer is what a line is answered: words, with blanks between.
type answer struct {
	text []byte
}

// next puts a blank between the word ahead, if there is one, and the next.
func (a *answer) next() {
	if len(a.text) > 0 {
		a.text = append(a.text, ' ')
	}
}

func (a *answer) word(word string) {
	a.next()
	a.text = append(a.text, word...)
}

func (a *answer) quoted(text string) { a.word(Quote([]byte(text))) }

func (a *answer) numbers(list ...int) {
	for _, n := range list {
		a.next()
		a.text = strconv.AppendInt(a.text, int64(n), 10)
	}
}

// ok tells an error, or that there is none; and whether that is so.
func (a *answer) ok(err api.Errno) bool {
	a.word(err.Error())
	return err == api.OK
}

// fault tells one of a text, with its line and column.
func (a *answer) fault(text string, f api.Fault) {
	line, col, _ := span.New([]byte(text)).Spot(f.At)
	a.word(f.Err.Error())
	a.numbers(line, col)
}

// access tells what one was answered.
func (a *answer) access(x api.Answer) {
	if x.Hit {
		a.word("+")
	} else {
		a.word("-")
	}
	for _, key := range x.Evicted {
		a.text = append(a.text, ',')
		a.text = strconv.AppendUint(a.text, key, 10)
	}
}

// queue tells its entries.
func (a *answer) queue(entries []api.Entry) {
	a.word("[")
	for at, e := range entries {
		if at > 0 {
			a.next()
		}
		a.text = strconv.AppendUint(a.text, e.Key, 10)
		for _, n := range e.Tags {
			a.text = append(a.text, '/')
			a.text = strconv.AppendInt(a.text, int64(n), 10)
		}
	}
	a.text = append(a.text, ']')
}
