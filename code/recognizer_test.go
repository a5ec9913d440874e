package code_test

import (
	"slices"

	"winnow/api"
)

// plainDecode is P1503 read another way: first the bytes are cut into forms, one behind the other, each asked for by what was told so far; then the program is put together of what they tell.
func plainDecode(b []byte) (api.Program, api.Fault) {
	c := cutter{b: b}
	c.first()
	queues := c.count(16)
	for range queues {
		c.kind()
	}
	vars := c.count(16)
	for range 3 * vars {
		c.number()
	}
	tags := c.count(4)
	for range tags + queues + 1 {
		c.number()
	}
	code := c.count(1 << 18)
	for n := 0; n < code && c.fault.Err == api.OK; n++ {
		for range len(kindsOf(c.op())) {
			c.number()
		}
	}
	if c.fault.Err == api.OK && c.at < len(b) {
		c.fault = api.Fault{Err: api.ErrTail, At: c.at}
	}
	if c.fault.Err != api.OK {
		return api.Program{}, c.fault
	}
	p := putTogether(c.told)
	if err := plainCheck(p); err != api.OK {
		return api.Program{}, api.Fault{Err: err}
	}
	return p, api.Fault{}
}

// cutter cuts one form behind the other, till a fault is told; then it tells zeros.
type cutter struct {
	b     []byte
	at    int
	fault api.Fault
	told  []int // what each form tells
}

// take tells what a form of so many bytes tells, or a fault at its beginning.
func (c *cutter) take(size, n int, err api.Errno) int {
	if c.fault.Err != api.OK {
		return 0
	}
	if err != api.OK {
		c.fault = api.Fault{Err: err, At: c.at}
		return 0
	}
	c.at += size
	c.told = append(c.told, n)
	return n
}

func (c *cutter) cut() { c.fault = api.Fault{Err: api.ErrCut, At: len(c.b)} }

func (c *cutter) single(bad func(byte) bool, err api.Errno) {
	rest := c.b[c.at:]
	switch {
	case c.fault.Err != api.OK:
	case len(rest) == 0:
		c.cut()
	case bad(rest[0]):
		c.take(1, 0, err)
	default:
		c.take(1, int(rest[0]), api.OK)
	}
}

func (c *cutter) first() { c.single(func(b byte) bool { return b != 87 }, api.ErrTag) }

func (c *cutter) kind() { c.single(func(b byte) bool { return b > 1 }, api.ErrForm) }

func (c *cutter) number() int { return c.numberOr(func(int) api.Errno { return api.OK }) }

func (c *cutter) count(most int) int {
	return c.numberOr(func(n int) api.Errno {
		if n > most {
			return api.ErrProg
		}
		return api.OK
	})
}

func (c *cutter) op() int {
	return c.numberOr(func(n int) api.Errno {
		if n >= len(table) {
			return api.ErrOp
		}
		return api.OK
	})
}

// numberOr looks for the last byte of a number first, and then holds its one form against what stands there.
func (c *cutter) numberOr(refuse func(n int) api.Errno) int {
	if c.fault.Err != api.OK {
		return 0
	}
	rest := c.b[c.at:]
	last := slices.IndexFunc(rest, func(b byte) bool { return b < 128 })
	if last < 0 && len(rest) < 9 {
		c.cut()
		return 0
	}
	if last < 0 || last > 8 {
		return c.take(0, 0, api.ErrForm)
	}
	n := 0
	for i := last; i >= 0; i-- {
		n = n*128 + int(rest[i])%128
	}
	if !slices.Equal(plainNumber(n), rest[:last+1]) {
		return c.take(0, 0, api.ErrForm)
	}
	return c.take(last+1, n, refuse(n))
}

// putTogether makes a program of what the forms of its bytes tell.
func putTogether(told []int) api.Program {
	var p api.Program
	next := func() int {
		n := told[0]
		told = told[1:]
		return n
	}
	signed := func() int {
		n := next()
		return n/2 - n%2*(n/2*2+1)
	}
	next()
	for range next() {
		p.Ghost = append(p.Ghost, next() == 1)
	}
	for range next() {
		p.Vars = append(p.Vars, api.Var{})
		v := &p.Vars[len(p.Vars)-1]
		v.Init = signed()
		v.Lo = signed()
		v.Hi = signed()
	}
	for range next() {
		p.Tags = append(p.Tags, next())
	}
	for range p.Ghost {
		p.On = append(p.On, next()-1)
	}
	p.Miss = next() - 1
	for range next() {
		i := api.Instr{Op: next()}
		fields := []*int{&i.A, &i.B, &i.C, &i.D}
		for at, kind := range kindsOf(i.Op) {
			if kind == "n" {
				*fields[at] = signed()
			} else {
				*fields[at] = next()
			}
		}
		p.Code = append(p.Code, i)
	}
	return p
}
