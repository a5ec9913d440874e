package lab

import (
	"strings"

	"winnow/api"
	"winnow/engine"
)

// lines tells how many a script has.
func lines(script string) int {
	count := strings.Count(script, "\n")
	if script != "" && !strings.HasSuffix(script, "\n") {
		count++
	}
	return count
}

// player plays a script's lines.
type player struct {
	engine   *engine.Engine // nil: there is none
	commands map[string]command
}

// command is what a line may ask for.
type command struct {
	form string // what stands behind its name, as chapter 21's table has it
	asks bool   // for an engine
	do   func(args, *answer)
}

func newPlayer() *player {
	p := &player{}
	p.commands = map[string]command{
		"load":    {form: "KIND n", do: p.load},
		"text":    {form: "T n n..", do: p.text},
		"print":   {form: "T", do: p.print},
		"source":  {form: "KIND", do: p.source},
		"curve":   {form: "n n n n", do: p.curve},
		"access":  {form: "k k..", asks: true, do: p.access},
		"remove":  {form: "k", asks: true, do: p.remove},
		"zipf":    {form: "n n n", asks: true, do: p.zipf},
		"uniform": {form: "n n n", asks: true, do: p.uniform},
		"loop":    {form: "n n", asks: true, do: p.loop},
		"stats":   {asks: true, do: p.stats},
		"state":   {asks: true, do: p.state},
		"code":    {asks: true, do: p.code},
		"size":    {asks: true, do: p.size},
	}
	return p
}

// line does what a line asks for, and tells its answer.
func (p *player) line(line string) string {
	words, err := Words(line)
	if err != api.OK {
		return err.Error()
	}
	if len(words) == 0 {
		return ""
	}
	c, known := p.commands[words[0]]
	if !known {
		return api.ErrWord.Error()
	}
	in, right := read(c.form, words[1:])
	if !right {
		return api.ErrWord.Error()
	}
	if c.asks && p.engine == nil {
		return "none"
	}
	return told(c, in)
}

// told is what a command answers.
func told(c command, in args) string {
	var out answer
	c.do(in, &out)
	if len(out.text) > api.MaxAnswer {
		return api.ErrLong.Error()
	}
	return string(out.text)
}
