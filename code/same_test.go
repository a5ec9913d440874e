package code_test

import (
	"math"
	"testing"

	"winnow/api"
	"winnow/code"
)

func TestP1505Same(t *testing.T) {
	for name, turn := range map[string]func(p *api.Program){
		"a queue's kind":        func(p *api.Program) { p.Ghost[2] = true },
		"a queue more":          func(p *api.Program) { p.Ghost = append(p.Ghost, false) },
		"a queue less":          func(p *api.Program) { p.Ghost = p.Ghost[:2] },
		"Init":                  func(p *api.Program) { p.Vars[1].Init++ },
		"Lo":                    func(p *api.Program) { p.Vars[0].Lo-- },
		"Hi":                    func(p *api.Program) { p.Vars[1].Hi-- },
		"a var more":            func(p *api.Program) { p.Vars = append(p.Vars, api.Var{}) },
		"no vars":               func(p *api.Program) { p.Vars = nil },
		"vars in another order": func(p *api.Program) { p.Vars[0], p.Vars[1] = p.Vars[1], p.Vars[0] },
		"a tag":                 func(p *api.Program) { p.Tags[3] = 254 },
		"a tag less":            func(p *api.Program) { p.Tags = p.Tags[1:] },
		"an event":              func(p *api.Program) { p.On[0] = 0 },
		"an event less":         func(p *api.Program) { p.On = p.On[:2] },
		"the miss":              func(p *api.Program) { p.Miss = -1 },
		"an Op":                 func(p *api.Program) { p.Code[8].Op = api.ISize },
		"A":                     func(p *api.Program) { p.Code[0].A = 1 },
		"B":                     func(p *api.Program) { p.Code[1].B = 1 },
		"C":                     func(p *api.Program) { p.Code[2].C = 1 },
		"D":                     func(p *api.Program) { p.Code[3].D = math.MinInt },
		"an instruction less":   func(p *api.Program) { p.Code = p.Code[:8] },
		"an instruction more":   func(p *api.Program) { p.Code = append(p.Code, api.Instr{}) },
		"all of it":             func(p *api.Program) { *p = api.Program{} },
	} {
		t.Run(name, func(t *testing.T) {
			p := full()
			turn(&p)
			if code.Same(p, full()) || code.Same(full(), p) {
				t.Error("it is the same")
			}
			if q := code.Twin(p); !code.Same(p, q) || !code.Same(q, p) || !code.Same(p, p) || !sameProgram(p, q) {
				t.Errorf("Twin of %v: %v", p, q)
			}
		})
	}
	if !code.Same(full(), full()) {
		t.Error("it is not the same")
	}
}

func TestP1505NoListIsAnEmptyOne(t *testing.T) {
	empty := api.Program{Ghost: []bool{}, Vars: []api.Var{}, Tags: []int{}, On: []int{}, Code: []api.Instr{}}
	if !code.Same(empty, api.Program{}) || !code.Same(api.Program{}, empty) || !code.Same(code.Twin(empty), code.Twin(api.Program{})) {
		t.Error("they are not the same")
	}
}
