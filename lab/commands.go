package lab

import (
	"winnow/api"
	"winnow/code"
	"winnow/engine"
	"winnow/gram"
	"winnow/model"
	"winnow/show"
)

func (p *player) load(in args, out *answer) {
	c, err := model.Caps(in.kind, in.numbers[0])
	if err != api.OK {
		out.ok(err)
		return
	}
	text, _ := model.Source(in.kind)
	p.become(text, c, out)
}

func (p *player) text(in args, out *answer) {
	p.become(in.text, api.Caps{Size: in.numbers[0], Queues: in.numbers[1:]}, out)
}

// become loads a text's engine in the place of the elder one, which stays if there is a fault.
func (p *player) become(text string, c api.Caps, out *answer) {
	e, fault := engine.Load([]byte(text), c)
	if fault.Err != api.OK {
		out.fault(text, fault)
		return
	}
	p.engine = e
	out.ok(api.OK)
}

func (p *player) print(in args, out *answer) {
	rows, _, fault := gram.Parse([]byte(in.text))
	if fault.Err != api.OK {
		out.fault(in.text, fault)
		return
	}
	if text, err := show.Print(rows); out.ok(err) {
		out.quoted(text)
	}
}

func (p *player) source(in args, out *answer) {
	if text, err := model.Source(in.kind); out.ok(err) {
		out.quoted(text)
	}
}

func (p *player) curve(in args, out *answer) {
	n := in.numbers
	keys, err := Zipf(uint64(n[0]), n[1], n[2])
	if err != api.OK {
		out.ok(err)
		return
	}
	if hits, err := Curve(Distances(keys), n[3]); out.ok(err) {
		out.numbers(hits...)
	}
}

func (p *player) access(in args, out *answer) {
	for _, key := range in.keys {
		out.access(p.engine.Access(key))
	}
}

func (p *player) remove(in args, out *answer) {
	switch p.engine.Remove(in.keys[0]) {
	case api.RResident:
		out.word("resident")
	case api.RGhost:
		out.word("ghost")
	default:
		out.word("none")
	}
}

func (p *player) zipf(in args, out *answer) {
	n := in.numbers
	keys, err := Zipf(uint64(n[0]), n[1], n[2])
	p.play(keys, err, out)
}

func (p *player) uniform(in args, out *answer) {
	n := in.numbers
	keys, err := Uniform(uint64(n[0]), n[1], n[2])
	p.play(keys, err, out)
}

func (p *player) loop(in args, out *answer) {
	keys, err := Loop(in.numbers[0], in.numbers[1])
	p.play(keys, err, out)
}

// play does an Access of each of a workload's keys, if there is one.
func (p *player) play(keys []uint64, err api.Errno, out *answer) {
	if !out.ok(err) {
		return
	}
	hits, evicted := 0, 0
	for _, key := range keys {
		x := p.engine.Access(key)
		if x.Hit {
			hits++
		}
		evicted += len(x.Evicted)
	}
	out.numbers(hits, evicted)
}

func (p *player) stats(_ args, out *answer) {
	s := p.engine.Stats()
	out.ok(api.OK)
	out.numbers(s.Hits, s.Misses, s.Evictions, s.Removals)
}

func (p *player) state(_ args, out *answer) {
	s := p.engine.State()
	out.ok(api.OK)
	for _, entries := range s.Queues {
		out.queue(entries)
	}
	out.numbers(s.Vars...)
}

func (p *player) code(_ args, out *answer) {
	if list, err := code.List(p.engine.Program()); out.ok(err) {
		out.quoted(list)
	}
}

func (p *player) size(_ args, out *answer) {
	program := p.engine.Program()
	if bytes, err := code.Encode(program); out.ok(err) {
		out.numbers(len(bytes), len(program.Code))
	}
}
