package lab_test

import (
	"fmt"
	"math/big"
	"regexp"
	"slices"
	"strings"
	"unicode/utf8"

	"winnow/api"
	"winnow/code"
	"winnow/cost"
	"winnow/deno"
	"winnow/fold"
	"winnow/gen"
	"winnow/gram"
	"winnow/model"
	"winnow/names"
	"winnow/room"
	"winnow/rule"
	"winnow/show"
	"winnow/typed"
)

// plain plays a script by the table of P2105, over the texts' meanings (chapter 11).
type plain struct {
	m *deno.Machine // nil: there is none
	p api.Policy
	u api.Typed
	c api.Caps
}

func plainRun(script string) string {
	list := strings.Split(script, "\n")
	if last := len(list) - 1; list[last] == "" {
		list = list[:last]
	}
	if len(script) > 65536 || len(list) > 512 {
		return "long\n"
	}
	var x plain
	text := ""
	for _, line := range list {
		answer := x.line(line)
		if len(answer) > 131072 {
			answer = "long"
		}
		text += answer + "\n"
	}
	return text
}

// forms are the table's signs: N of a number, K of a key, P of a paper's name, T of any word; *: as many more of the last one as there are.
var forms = map[string]string{
	"load": "PN", "text": "TNN*", "print": "T", "source": "P", "curve": "NNNN",
	"access": "KK*", "remove": "K", "zipf": "NNN", "uniform": "NNN", "loop": "NN", "stats": "", "state": "", "code": "", "size": "",
}

var (
	aNumber      = regexp.MustCompile(`^-?[0-9]{1,15}$`)
	belowNothing = regexp.MustCompile(`^-0*$`)
	aKey         = regexp.MustCompile(`^[0-9]{1,20}$`)
)

// signsOf are the letters of the signs of which a word may be.
func signsOf(word string) string {
	signs := "T"
	if aNumber.MatchString(word) && !belowNothing.MatchString(word) {
		signs += "N"
	}
	if aKey.MatchString(word) {
		n, _ := new(big.Int).SetString(word, 10)
		if n.Cmp(new(big.Int).Lsh(big.NewInt(1), 64)) < 0 {
			signs += "K"
		}
	}
	if slices.Contains([]string{"fifo", "lru", "clock", "twoq", "s3fifo", "arc"}, word) {
		signs += "P"
	}
	return signs
}

// fits tells whether words are as a form has them.
func fits(form string, words []string) bool {
	star := strings.HasSuffix(form, "*")
	if star {
		form = form[:len(form)-2]
		for len(form) < len(words) {
			form += form[len(form)-1:]
		}
	}
	if len(form) != len(words) {
		return false
	}
	for i, word := range words {
		if !strings.Contains(signsOf(word), form[i:i+1]) {
			return false
		}
	}
	return true
}

func (x *plain) line(line string) string {
	words, right := plainWords(line)
	if !right {
		return "word"
	}
	if len(words) == 0 {
		return ""
	}
	form, known := forms[words[0]]
	if !known || !fits(form, words[1:]) {
		return "word"
	}
	var numbers []int
	for _, word := range words[1:] {
		n, _ := new(big.Int).SetString(word, 10)
		if n == nil {
			n = new(big.Int)
		}
		numbers = append(numbers, int(n.Int64()))
	}
	switch name := words[0]; {
	case name == "load":
		return x.load(kindNamed(words[1]), numbers[1])
	case name == "text":
		return x.become(words[1], api.Caps{Size: numbers[1], Queues: numbers[2:]})
	case name == "print":
		return plainPrint(words[1])
	case name == "source":
		text, _ := model.Source(kindNamed(words[1]))
		return "ok " + plainQuote(text)
	case name == "curve":
		return plainCurveLine(numbers)
	case x.m == nil:
		return "none"
	case name == "access":
		return x.access(words[1:])
	case name == "zipf" || name == "uniform" || name == "loop":
		return x.workload(name, numbers)
	default:
		return x.look(name, words[1:])
	}
}

func kindNamed(name string) int {
	return slices.Index([]string{"fifo", "lru", "clock", "twoq", "s3fifo", "arc"}, name)
}

func plainQuote(text string) string {
	quoted := []byte{'"'}
	for _, b := range []byte(text) {
		switch {
		case b == 34 || b == 92:
			quoted = append(quoted, 92, b)
		case b == 10:
			quoted = append(quoted, `\n`...)
		case b == 9:
			quoted = append(quoted, `\t`...)
		case b >= 32 && b <= 126:
			quoted = append(quoted, b)
		default:
			quoted = fmt.Appendf(quoted, `\x%02x`, b)
		}
	}
	return string(append(quoted, '"'))
}

// plainFault tells a fault's line and column by what stands ahead of it.
func plainFault(text string, f api.Fault) string {
	lines := strings.Split(text[:f.At], "\n")
	return fmt.Sprint(f.Err.Error(), " ", len(lines), " ", 1+utf8.RuneCountInString(lines[len(lines)-1]))
}

// plainLoad is P2001, layer by layer.
func plainLoad(text string, c api.Caps) (api.Policy, api.Typed, api.Fault) {
	rows, places, fault := gram.Parse([]byte(text))
	if fault.Err != api.OK {
		return api.Policy{}, api.Typed{}, fault
	}
	p, fault := names.Resolve(rows)
	var u api.Typed
	if fault.Err == api.OK {
		u, fault = typed.Check(p, c)
	}
	if fault.Err == api.OK {
		_, fault = room.Judge(p, u, c)
	}
	if fault.Err == api.OK {
		_, fault = cost.Bound(p, u)
	}
	if fault.Err == api.OK {
		return p, u, api.Fault{}
	}
	if fault.Err != api.ErrCaps {
		fault.At = places[fault.At]
	}
	return api.Policy{}, api.Typed{}, fault
}

func (x *plain) become(text string, c api.Caps) string {
	p, u, fault := plainLoad(text, c)
	if fault.Err != api.OK {
		return plainFault(text, fault)
	}
	m, err := deno.New(p, u, c)
	if err != api.OK {
		panic(err)
	}
	*x = plain{m, p, u, c}
	return "ok"
}

func (x *plain) load(kind, size int) string {
	c, err := model.Caps(kind, size)
	if err != api.OK {
		return err.Error()
	}
	text, _ := model.Source(kind)
	return x.become(text, c)
}

func plainPrint(text string) string {
	rows, _, fault := gram.Parse([]byte(text))
	if fault.Err != api.OK {
		return plainFault(text, fault)
	}
	printed, err := show.Print(rows)
	if err != api.OK {
		return err.Error()
	}
	return "ok " + plainQuote(printed)
}

// plainKeys are those of a workload, and whether there may be such a one.
func plainKeys(name string, n []int) ([]uint64, bool) {
	if name == "loop" {
		n = append([]int{0}, n...)
	}
	if n[1] < 0 || n[1] > 1<<22 || n[2] < 1 || n[2] > 1<<22 {
		return nil, false
	}
	switch name {
	case "loop":
		return plainLoop(n[1], n[2]), true
	case "zipf":
		return plainZipf(uint64(n[0]), n[1], n[2]), true
	}
	return plainUniform(uint64(n[0]), n[1], n[2]), true
}

func plainCurveLine(n []int) string {
	keys, right := plainKeys("zipf", n)
	if !right || n[3] < 1 || n[3] > 1<<20 {
		return "arg"
	}
	return "ok " + list(plainCurve(plainDistances(keys), n[3]))
}

func (x *plain) access(words []string) string {
	var told []string
	for _, word := range words {
		n, _ := new(big.Int).SetString(word, 10)
		a := x.m.Access(n.Uint64())
		one := "-"
		if a.Hit {
			one = "+"
		}
		for _, key := range a.Evicted {
			one += fmt.Sprint(",", key)
		}
		told = append(told, one)
	}
	return strings.Join(told, " ")
}

func (x *plain) workload(name string, n []int) string {
	keys, right := plainKeys(name, n)
	if !right {
		return "arg"
	}
	was := x.m.Stats()
	for _, key := range keys {
		x.m.Access(key)
	}
	now := x.m.Stats()
	return fmt.Sprint("ok ", now.Hits-was.Hits, " ", now.Evictions-was.Evictions)
}

// look does what is left: a Remove, and what asks alone.
func (x *plain) look(name string, words []string) string {
	switch name {
	case "remove":
		n, _ := new(big.Int).SetString(words[0], 10)
		return []string{"none", "resident", "ghost"}[x.m.Remove(n.Uint64())]
	case "stats":
		s := x.m.Stats()
		return fmt.Sprint("ok ", s.Hits, " ", s.Misses, " ", s.Evictions, " ", s.Removals)
	case "state":
		return x.state()
	}
	program := x.program()
	if name == "code" {
		text, _ := code.List(program)
		return "ok " + plainQuote(text)
	}
	bytes, _ := code.Encode(program)
	return fmt.Sprint("ok ", len(bytes), " ", len(program.Code))
}

func (x *plain) state() string {
	s := x.m.State()
	told := []string{"ok"}
	for _, queue := range s.Queues {
		var entries []string
		for _, e := range queue {
			one := fmt.Sprint(e.Key)
			for _, n := range e.Tags {
				one += fmt.Sprint("/", n)
			}
			entries = append(entries, one)
		}
		told = append(told, "["+strings.Join(entries, " ")+"]")
	}
	for _, n := range s.Vars {
		told = append(told, fmt.Sprint(n))
	}
	return strings.Join(told, " ")
}

func (x *plain) program() api.Program {
	plan, _ := rule.Lower(x.p, x.u, x.c)
	folded, _ := fold.Run(plan)
	made, err := gen.Make(folded)
	if err != api.OK {
		panic(err)
	}
	return made
}
