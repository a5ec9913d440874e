package code_test

import (
	"math"
	"slices"
	"strings"
	"testing"

	"winnow/api"
	"winnow/code"
)

// full has another number of each thing that it has: 3 queues, 2 vars, 4 tags, 9 instructions.
func full() api.Program {
	return api.Program{
		Ghost: []bool{false, true, false},
		Vars:  []api.Var{{Init: 0, Lo: -1, Hi: 1}, {Init: 64, Lo: 63, Hi: api.MaxNum}},
		Tags:  []int{1, 127, 128, 255},
		On:    []int{-1, 8, 0},
		Miss:  1,
		Code:  make([]api.Instr, 9),
	}
}

// fullBytes are full's bytes but for those of its instructions.
var fullBytes = []byte{87, 3, 0, 1, 0, 2, 0, 1, 2, 128, 1, 126, 128, 128, 128, 128, 8, 4, 1, 127, 128, 1, 255, 1, 0, 9, 1, 2, 9}

// each is one of each instruction, with the numbers of its operands, its bytes, its line.
var each = []struct {
	i     api.Instr
	bytes []byte
	line  string
}{
	{api.Instr{Op: api.IEnd}, []byte{0}, "end"},
	{api.Instr{Op: api.INum, A: 7}, []byte{1, 14}, "num 7"},
	{api.Instr{Op: api.IBool, A: 1}, []byte{2, 1}, "bool true"},
	{api.Instr{Op: api.IVar, A: 1}, []byte{3, 1}, "var v1"},
	{api.Instr{Op: api.ILen, A: 2}, []byte{4, 2}, "len q2"},
	{api.Instr{Op: api.ICap, A: 1}, []byte{5, 1}, "cap q1"},
	{api.Instr{Op: api.ISize}, []byte{6}, "size"},
	{api.Instr{Op: api.ITotal}, []byte{7}, "total"},
	{api.Instr{Op: api.IAt, A: 2}, []byte{8, 2}, "at q2"},
	{api.Instr{Op: api.ITagX, A: 3}, []byte{9, 3}, "tagx t3"},
	{api.Instr{Op: api.ITagEnd, A: 2, B: 1, C: 3}, []byte{10, 2, 1, 3}, "tagend q2 back t3"},
	{api.Instr{Op: api.IMin}, []byte{11}, "min"},
	{api.Instr{Op: api.IMax}, []byte{12}, "max"},
	{api.Instr{Op: api.INeg}, []byte{13}, "neg"},
	{api.Instr{Op: api.INot}, []byte{14}, "not"},
	{api.Instr{Op: api.IMul}, []byte{15}, "mul"},
	{api.Instr{Op: api.IDiv}, []byte{16}, "div"},
	{api.Instr{Op: api.IAdd}, []byte{17}, "add"},
	{api.Instr{Op: api.ISub}, []byte{18}, "sub"},
	{api.Instr{Op: api.IEq}, []byte{19}, "eq"},
	{api.Instr{Op: api.ILt}, []byte{20}, "lt"},
	{api.Instr{Op: api.ILe}, []byte{21}, "le"},
	{api.Instr{Op: api.IJump, A: 8}, []byte{22, 8}, "jump @8"},
	{api.Instr{Op: api.IElse, A: 7}, []byte{23, 7}, "else @7"},
	{api.Instr{Op: api.ILoop, A: 9}, []byte{24, 9}, "loop 9"},
	{api.Instr{Op: api.ITurn, A: 6}, []byte{25, 6}, "turn @6"},
	{api.Instr{Op: api.IQuit, A: 5}, []byte{26, 5}, "quit @5"},
	{api.Instr{Op: api.IAgain, A: 4}, []byte{27, 4}, "again @4"},
	{api.Instr{Op: api.ISet, A: 1}, []byte{28, 1}, "set v1"},
	{api.Instr{Op: api.IMarkX, A: 2}, []byte{29, 2}, "markx t2"},
	{api.Instr{Op: api.IMarkEnd, A: 1, B: 0, C: 3}, []byte{30, 1, 0, 3}, "markend q1 front t3"},
	{api.Instr{Op: api.IInsert, A: 2, B: 1}, []byte{31, 2, 1}, "insert q2 back"},
	{api.Instr{Op: api.IMove, A: 2, B: 1}, []byte{32, 2, 1}, "move q2 back"},
	{api.Instr{Op: api.IForget}, []byte{33}, "forget"},
	{api.Instr{Op: api.ITake, A: 2, B: 1}, []byte{34, 2, 1}, "take q2 back"},
	{api.Instr{Op: api.IGive, A: 2, B: 1}, []byte{35, 2, 1}, "give q2 back"},
	{api.Instr{Op: api.ITell}, []byte{36}, "tell"},
	{api.Instr{Op: api.ILoose}, []byte{37}, "loose"},
	{api.Instr{Op: api.IShift, A: 2, B: 0, C: 1, D: 1}, []byte{38, 2, 0, 1, 1}, "shift q2 front q1 back"},
	{api.Instr{Op: api.ISpill, A: 2, B: 1, C: 0, D: 0}, []byte{39, 2, 1, 0, 0}, "spill q2 back q0 front"},
	{api.Instr{Op: api.IEvict, A: 2, B: 1}, []byte{40, 2, 1}, "evict q2 back"},
	{api.Instr{Op: api.IDrop, A: 2, B: 1}, []byte{41, 2, 1}, "drop q2 back"},
}

// mayBe holds all calls against the bytes and the list of a program that may be written.
func mayBe(t *testing.T, p api.Program, bytes []byte, list string) {
	t.Helper()
	if err := code.Check(p); err != api.OK {
		t.Errorf("Check of %v: %v", p, err)
	}
	if b, err := code.Encode(p); err != api.OK || !slices.Equal(b, bytes) {
		t.Errorf("Encode of %v: %v %v; want %v", p, b, err, bytes)
	}
	if q, fault := code.Decode(bytes); fault != (api.Fault{}) || !sameProgram(q, p) {
		t.Errorf("Decode of %v: %v %v; want %v", bytes, q, fault, p)
	}
	if s, err := code.List(p); err != api.OK || s != list {
		t.Errorf("List of %v: %q %v; want %q", p, s, err, list)
	}
}

// mayNot holds all calls against the error of a program that may not be written.
func mayNot(t *testing.T, p api.Program, want api.Errno) {
	t.Helper()
	if err := code.Check(p); err != want {
		t.Errorf("Check of %v: %v; want %v", p, err, want)
	}
	if b, err := code.Encode(p); err != want || len(b) > 0 {
		t.Errorf("Encode of %v: %v %v; want %v", p, b, err, want)
	}
	if s, err := code.List(p); err != want || s != "" {
		t.Errorf("List of %v: %q %v; want %v", p, s, err, want)
	}
}

// faulty holds Decode against a fault.
func faulty(t *testing.T, bytes []byte, err api.Errno, at int) {
	t.Helper()
	if p, fault := code.Decode(bytes); fault != (api.Fault{Err: err, At: at}) || !sameProgram(p, api.Program{}) {
		t.Errorf("Decode of %v: %v %v; want %v at %d", bytes, p, fault, err, at)
	}
}

func TestExamples(t *testing.T) {
	mayBe(t, api.Program{Miss: -1}, []byte{87, 0, 0, 0, 0, 0}, "")
	mayBe(t, api.Program{Ghost: []bool{false}, On: []int{-1}, Code: []api.Instr{{Op: api.IInsert}, {Op: api.IEnd}}},
		[]byte{87, 1, 0, 0, 0, 0, 1, 2, api.IInsert, 0, 0, 0}, "miss:\n0: insert q0 front\n1: end\n")
	faulty(t, nil, api.ErrCut, 0)
	faulty(t, []byte{88}, api.ErrTag, 0)
	faulty(t, []byte{87, 17}, api.ErrProg, 1)
	faulty(t, []byte{87, 128, 0}, api.ErrForm, 1)
	faulty(t, []byte{87, 0, 0, 0, 0, 0, 0}, api.ErrTail, 6)
}

func TestP1502P1504EachInstruction(t *testing.T) {
	for op, row := range each {
		if row.i.Op != op {
			t.Fatalf("row %d has %d", op, row.i.Op)
		}
		p := full()
		p.Code[3] = row.i
		mayBe(t, p, slices.Concat(fullBytes, []byte{0, 0, 0}, row.bytes, []byte{0, 0, 0, 0, 0}),
			"on q2:\n0: end\nmiss:\n1: end\n2: end\n3: "+row.line+"\n4: end\n5: end\n6: end\n7: end\non q1:\n8: end\n")
	}
	if len(each) != api.ICount {
		t.Errorf("%d rows, %d instructions", len(each), api.ICount)
	}
}

func TestP1502Numbers(t *testing.T) {
	for _, row := range []struct {
		op, n int
		bytes []byte
		text  string
	}{
		{api.INum, 0, []byte{0}, "num 0"},
		{api.INum, -1, []byte{1}, "num -1"},
		{api.INum, 1, []byte{2}, "num 1"},
		{api.INum, 63, []byte{126}, "num 63"},
		{api.INum, -64, []byte{127}, "num -64"},
		{api.INum, 64, []byte{128, 1}, "num 64"},
		{api.INum, -65, []byte{129, 1}, "num -65"},
		{api.INum, 8191, []byte{254, 127}, "num 8191"},
		{api.INum, -8192, []byte{255, 127}, "num -8192"},
		{api.INum, 8192, []byte{128, 128, 1}, "num 8192"},
		{api.INum, api.MaxNum, []byte{128, 128, 128, 128, 8}, "num 1073741824"},
		{api.INum, -api.MaxNum, []byte{255, 255, 255, 255, 7}, "num -1073741824"},
		{api.ILoop, 0, []byte{0}, "loop 0"},
		{api.ILoop, 127, []byte{127}, "loop 127"},
		{api.ILoop, 128, []byte{128, 1}, "loop 128"},
		{api.ILoop, 16383, []byte{255, 127}, "loop 16383"},
		{api.ILoop, 16384, []byte{128, 128, 1}, "loop 16384"},
		{api.ILoop, api.MaxLoop, []byte{128, 128, 128, 2}, "loop 4194304"},
		{api.IBool, 0, []byte{0}, "bool false"},
		{api.IJump, 0, []byte{0}, "jump @0"},
	} {
		p := api.Program{Miss: -1, Code: []api.Instr{{Op: row.op, A: row.n}}}
		mayBe(t, p, append([]byte{87, 0, 0, 0, 0, 1, byte(row.op)}, row.bytes...), "0: "+row.text+"\n")
	}
}

// As many of each as may be.
func most() api.Program {
	var p api.Program
	for range api.MaxQueues {
		p.Ghost, p.On = append(p.Ghost, true), append(p.On, 0)
	}
	for range api.MaxVars {
		p.Vars = append(p.Vars, api.Var{Init: -api.MaxNum, Lo: -api.MaxNum, Hi: api.MaxNum})
	}
	for range api.MaxTags {
		p.Tags = append(p.Tags, api.MaxTag)
	}
	p.Code = []api.Instr{{Op: api.IMarkEnd, A: 15, B: 1, C: 3}, {Op: api.ISet, A: 15}}
	return p
}

func TestMost(t *testing.T) {
	bytes := append([]byte{87, 16}, slices.Repeat([]byte{1}, 16)...)
	bytes = append(bytes, 16)
	bytes = append(bytes, slices.Repeat([]byte{255, 255, 255, 255, 7, 255, 255, 255, 255, 7, 128, 128, 128, 128, 8}, 16)...)
	bytes = append(bytes, 4, 255, 1, 255, 1, 255, 1, 255, 1)
	bytes = append(bytes, slices.Repeat([]byte{1}, 17)...)
	bytes = append(bytes, 2, 30, 15, 1, 3, 28, 15)
	mayBe(t, most(), bytes, "on q0:\non q1:\non q2:\non q3:\non q4:\non q5:\non q6:\non q7:\non q8:\non q9:\non q10:\non q11:\non q12:\non q13:\non q14:\non q15:\nmiss:\n0: markend q15 back t3\n1: set v15\n")
}

func TestLongestCode(t *testing.T) {
	p := api.Program{Miss: api.MaxCode - 1, Code: slices.Repeat([]api.Instr{{Op: api.IJump, A: api.MaxCode - 1}}, api.MaxCode)}
	bytes := append([]byte{87, 0, 0, 0, 128, 128, 16, 128, 128, 16}, slices.Repeat([]byte{api.IJump, 255, 255, 15}, api.MaxCode)...)
	if b, err := code.Encode(p); err != api.OK || !slices.Equal(b, bytes) {
		t.Fatalf("%v", err)
	}
	if q, fault := code.Decode(bytes); fault.Err != api.OK || !code.Same(p, q) {
		t.Fatalf("%v", fault)
	}
	list, err := code.List(p)
	if err != api.OK || !strings.HasPrefix(list, "0: jump @262143\n1: jump @262143\n") || !strings.HasSuffix(list, "\n262142: jump @262143\nmiss:\n262143: jump @262143\n") {
		t.Fatalf("%v", err)
	}
	faulty(t, bytes[:len(bytes)-1], api.ErrCut, len(bytes)-1)
	p.Code = append(p.Code, api.Instr{})
	if err := code.Check(p); err != api.ErrProg {
		t.Errorf("one too many: %v", err)
	}
	if b, err := code.Encode(p); err != api.ErrProg || b != nil {
		t.Errorf("one too many: %v", err)
	}
	p.Code[0].Op = -1
	if err := code.Check(p); err != api.ErrProg {
		t.Errorf("one too many, and no instruction: %v", err)
	}
}

func TestP1501Tables(t *testing.T) {
	for name, turn := range map[string]func(p *api.Program){
		"a queue too many":      func(p *api.Program) { p.Ghost, p.On = make([]bool, 17), make([]int, 17) },
		"a var too many":        func(p *api.Program) { p.Vars = make([]api.Var, 17) },
		"a tag too many":        func(p *api.Program) { p.Tags = []int{1, 1, 1, 1, 1} },
		"below its least":       func(p *api.Program) { p.Vars[0].Init = -2 },
		"above its greatest":    func(p *api.Program) { p.Vars[1].Init, p.Vars[1].Hi = 65, 64 },
		"no range":              func(p *api.Program) { p.Vars[0] = api.Var{Init: 0, Lo: 1, Hi: -1} },
		"a least too low":       func(p *api.Program) { p.Vars[0].Lo = -api.MaxNum - 1 },
		"a greatest too high":   func(p *api.Program) { p.Vars[1].Hi = api.MaxNum + 1 },
		"all too low":           func(p *api.Program) { p.Vars[0] = api.Var{Init: math.MinInt, Lo: math.MinInt, Hi: math.MinInt} },
		"all too high":          func(p *api.Program) { p.Vars[0] = api.Var{Init: math.MaxInt, Lo: math.MaxInt, Hi: math.MaxInt} },
		"the last var":          func(p *api.Program) { p.Vars[1].Init = 62 },
		"a tag of 0":            func(p *api.Program) { p.Tags[3] = 0 },
		"a tag of -1":           func(p *api.Program) { p.Tags[0] = -1 },
		"a tag of 256":          func(p *api.Program) { p.Tags[1] = 256 },
		"an event too few":      func(p *api.Program) { p.On = p.On[:2] },
		"no events":             func(p *api.Program) { p.On = nil },
		"an event too many":     func(p *api.Program) { p.On = append(p.On, 0) },
		"an event below":        func(p *api.Program) { p.On[1] = -2 },
		"an event behind":       func(p *api.Program) { p.On[2] = 9 },
		"a miss below":          func(p *api.Program) { p.Miss = -2 },
		"a miss behind":         func(p *api.Program) { p.Miss = 9 },
		"a miss far below":      func(p *api.Program) { p.Miss = math.MinInt },
		"a miss far behind":     func(p *api.Program) { p.Miss = math.MaxInt },
		"no code for the miss":  func(p *api.Program) { p.On, p.Code, p.Miss = []int{-1, -1, -1}, nil, 0 },
		"no code for an event":  func(p *api.Program) { p.Code, p.Miss, p.On = nil, -1, []int{0, -1, -1} },
		"nothing, but a miss":   func(p *api.Program) { *p = api.Program{} },
		"ahead of an op":        func(p *api.Program) { p.Miss, p.Code[0].Op = 9, -1 },
		"a tag, ahead of an op": func(p *api.Program) { p.Tags[0], p.Code[0].Op = 0, api.ICount },
	} {
		t.Run(name, func(t *testing.T) {
			p := full()
			turn(&p)
			mayNot(t, p, api.ErrProg)
		})
	}
}

func TestP1501Edges(t *testing.T) {
	for name, turn := range map[string]func(p *api.Program){
		"as it is":        func(p *api.Program) {},
		"no events":       func(p *api.Program) { p.On, p.Miss = []int{-1, -1, -1}, -1 },
		"all at one":      func(p *api.Program) { p.On, p.Miss = []int{8, 8, 8}, 8 },
		"one number":      func(p *api.Program) { p.Vars[0] = api.Var{Init: 5, Lo: 5, Hi: 5} },
		"the whole range": func(p *api.Program) { p.Vars[0] = api.Var{Init: api.MaxNum, Lo: -api.MaxNum, Hi: api.MaxNum} },
		"the least alone": func(p *api.Program) { p.Vars[1] = api.Var{Init: -api.MaxNum, Lo: -api.MaxNum, Hi: -api.MaxNum} },
		"tags 1 and 255":  func(p *api.Program) { p.Tags = []int{1, 255} },
		"no vars, tags":   func(p *api.Program) { p.Vars, p.Tags = nil, nil },
		"no queues":       func(p *api.Program) { p.Ghost, p.On = nil, nil },
		"no code":         func(p *api.Program) { p.Code, p.On, p.Miss = nil, []int{-1, -1, -1}, -1 },
		"lists that are empty": func(p *api.Program) {
			*p = api.Program{Ghost: []bool{}, Vars: []api.Var{}, Tags: []int{}, On: []int{}, Miss: -1, Code: []api.Instr{}}
		},
	} {
		t.Run(name, func(t *testing.T) {
			p := full()
			turn(&p)
			mayBe(t, p, plainEncode(p), plainList(p))
		})
	}
}

// Each operand of each instruction, at the edges of each kind.
func TestP1501Operands(t *testing.T) {
	edges := []int{math.MinInt, -api.MaxNum - 1, -api.MaxNum, -2, -1, 0, 1, 2, 3, 4, 5, 6, 7, 8, 9, 10, 255, 256, api.MaxLoop - 1, api.MaxLoop, api.MaxLoop + 1, api.MaxNum, api.MaxNum + 1, math.MaxInt}
	for _, row := range each {
		for at := range 4 {
			for _, n := range edges {
				i := row.i
				*[]*int{&i.A, &i.B, &i.C, &i.D}[at] = n
				p := full()
				p.Code[8] = i
				want := api.OK
				if !plainOperands(p, i) {
					want = api.ErrOperand
				}
				if got := code.Check(p); got != want {
					t.Errorf("%v: %v; want %v", i, got, want)
				}
			}
		}
	}
}

func TestP1501NoSuchThings(t *testing.T) {
	for _, row := range each {
		p := api.Program{Miss: -1, Code: []api.Instr{row.i}}
		want := api.OK
		if strings.ContainsAny(row.line, "@") || strings.Contains(row.line, " q") || strings.Contains(row.line, " v") || strings.Contains(row.line, " t") && row.i.Op != api.IBool {
			want = api.ErrOperand
		}
		if got := code.Check(p); got != want {
			t.Errorf("%s, with no queues, vars, tags: %v; want %v", row.line, got, want)
		}
	}
}

func TestP1501Order(t *testing.T) {
	for _, op := range []int{-1, api.ICount, 128, math.MinInt, math.MaxInt} {
		p := full()
		p.Code[0] = api.Instr{Op: op, A: 99}
		mayNot(t, p, api.ErrOp)
		p.Code[8] = api.Instr{Op: api.IEnd, D: 1}
		mayNot(t, p, api.ErrOp)
		p.Code[0], p.Code[8] = p.Code[8], p.Code[0]
		mayNot(t, p, api.ErrOperand)
	}
}
