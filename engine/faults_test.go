package engine_test

import (
	"fmt"
	"maps"
	"math/rand"
	"slices"
	"strings"
	"testing"

	"winnow/api"
	"winnow/cost"
	"winnow/engine"
	"winnow/gram"
	"winnow/lex"
	"winnow/names"
	"winnow/room"
	"winnow/typed"
)

// q and g are declared ahead of what is tried: behind a remark and blanks, so that no row stands at 0.
const ahead = "# a policy\n\t policy p { queue q resident; queue g ghost; "

const deep = "loop 4194304 while true { loop 4194304 while true { loop 4194304 while true { } } }"

// faults are texts behind ahead; the fault stands where ^ does (there is no ^ in the text).
var faults = []struct {
	err  api.Errno
	text string
}{
	{api.ErrByte, "var v = 1 ^& 2"},
	{api.ErrByte, "^. }"},
	{api.ErrNumber, "tag t in ^1073741825; }"},
	{api.ErrName, "queue ^" + strings.Repeat("n", 65) + " ghost; }"},
	{api.ErrToken, "} ^}"},
	{api.ErrToken, "on miss { } ^queue r ghost; }"},
	{api.ErrToken, "require 1 < 2 ^< 3; }"},
	{api.ErrToken, "on miss { ^"},
	{api.ErrToken, "on miss { insert q ^; } }"},
	{api.ErrNest, "require 0 == " + strings.Repeat("(", 63) + "^(0" + strings.Repeat(")", 64) + "; }"},
	{api.ErrNest, "require " + strings.Repeat("!", 63) + "^!true; }"},

	{api.ErrTwice, "^queue q ghost; }"},
	{api.ErrTwice, "tag v in 1; ^var v = 0 in 0 .. 1; }"},
	{api.ErrTwice, "on hit q { } ^on ghost q { } }"},
	{api.ErrTwice, "on miss { } ^on miss { } }"},
	{api.ErrMany, "tag a in 1; tag b in 1; tag c in 1; tag d in 1; ^tag e in 1; }"},
	{api.ErrMany, many(14, "queue r%d ghost; ") + "^queue q16 ghost; }"},
	{api.ErrMany, many(16, "var v%d = 0 in 0 .. 0; ") + "^var v = 0 in 0 .. 0; }"},
	{api.ErrMany, many(64, "rule r%d { } ") + "^rule r { } }"},
	{api.ErrUnknown, "^on hit r { } }"},
	{api.ErrUnknown, "on miss { evict q back to ^r front; } }"},
	{api.ErrUnknown, "rule r { ^call r; } }"},
	{api.ErrUnknown, "var v = ^v in 0 .. 1; }"},
	{api.ErrUnknown, "require (1 + ^p) < 2; }"},
	{api.ErrOther, "on miss { ^set q = 1; } }"},
	{api.ErrOther, "tag t in 1; on miss { if empty(q) || ^full(t) { } } }"},
	{api.ErrLarge, "rule r0 { pass; } " + doubled(13) + "on hit q { call r11; } ^on miss { call r12; call r11; } }"},

	{api.ErrType, "require ^size; }"},
	{api.ErrType, "require 1 == (^true); }"},
	{api.ErrType, "on miss { if 1 ^+ 1 { } } }"},
	{api.ErrConst, "var v = 1 + ^len(q) in 0 .. 1; }"},
	{api.ErrConst, "on miss { loop ^total while true { } } }"},
	{api.ErrKind, "^on hit g { } }"},
	{api.ErrKind, "^on ghost q { } }"},
	{api.ErrKind, "on miss { ^drop q back; } }"},
	{api.ErrKind, "on miss { shift q front ^g front; } }"},
	{api.ErrRange, "^var v = 2 in 0 .. 1; }"},
	{api.ErrRange, "^tag t in 256; }"},
	{api.ErrRange, "on miss { { ^loop 4194305 while true { } } } }"},
	{api.ErrRequire, "require size == 4; ^require cap(q) == 4; }"},

	{api.ErrFull, "on miss { ^insert q front; } }"},
	{api.ErrFull, "on miss { if !empty(q) { ^evict q back to g front; } } }"},
	{api.ErrFull, "on ghost g { { } ^move q back; } }"},
	{api.ErrEmpty, "on miss { ^evict q front; } }"},
	{api.ErrEmpty, "rule r { ^drop g front; } on miss { call r; } }"},
	{api.ErrEmpty, "tag t in 1; on hit q { mark ^back(g) t = 1; } }"},
	{api.ErrEmpty, "tag t in 1; on miss { if t(^front(q)) == 1 { } } }"},
	{api.ErrWhere, "on hit q { ^insert q front; } }"},
	{api.ErrWhere, "on miss { ^forget; } }"},
	{api.ErrWhere, "tag t in 1; on miss { mark ^x t = 1; } }"},
	{api.ErrLoop, "rule r { if at(q) { ^move q front; } } on hit q { loop 2 while true { call r; } } }"},

	{api.ErrCost, "^on miss { " + deep + " } }"},
	{api.ErrCost, "rule r { " + deep + " } on hit q { } ^on ghost g { if 1 < 2 { } else { call r; } } on miss { call r; } }"},
}

func many(n int, form string) string {
	text := ""
	for i := range n {
		text += fmt.Sprintf(form, i)
	}
	return text
}

// doubled are rules, each of which calls the one ahead twice.
func doubled(n int) string {
	text := ""
	for i := 1; i < n; i++ {
		text += fmt.Sprintf("rule r%d { call r%d; call r%d; } ", i, i-1, i-1)
	}
	return text
}

// A fault of each kind of each of the five, at the place of its row in the text.
func TestP2001Places(t *testing.T) {
	met := map[api.Errno]int{}
	for _, x := range faults {
		at := strings.Index(ahead+x.text, "^")
		text := strings.Replace(ahead+x.text, "^", "", 1)
		wantFault(t, text, capsOf(4, 3, 2), api.Fault{Err: x.err, At: at})
		met[x.err]++
	}
	want := []api.Errno{
		api.ErrMany, api.ErrByte, api.ErrNumber, api.ErrName, api.ErrToken, api.ErrNest,
		api.ErrTwice, api.ErrUnknown, api.ErrOther, api.ErrLarge,
		api.ErrType, api.ErrConst, api.ErrRange, api.ErrRequire, api.ErrKind,
		api.ErrFull, api.ErrEmpty, api.ErrWhere, api.ErrLoop, api.ErrCost,
	}
	if got := slices.Sorted(maps.Keys(met)); !slices.Equal(got, want) {
		t.Errorf("%v; want %v", got, want)
	}
}

// ErrCaps stands at 0, wherever the policy does.
func TestP2001Caps(t *testing.T) {
	const most = api.MaxCap
	text := ahead + "queue r resident; queue h ghost; queue i ghost; }"
	for _, c := range []api.Caps{
		capsOf(1, 1, 1, 1, 1, 1), capsOf(4, 4, 9, 4, 9, 9), capsOf(most, most, most, most, most, most), capsOf(most, most/2, most, most/2, most, most),
		capsOf(most, 1, most, 1, most, most),
	} {
		e := load(t, text, c)
		if len(e.State().Queues) != 5 {
			t.Errorf("%v: %v", c, e.State())
		}
	}
	for _, c := range []api.Caps{
		{}, capsOf(0, 1, 1, 1, 1, 1), capsOf(-1, 1, 1, 1, 1, 1), capsOf(most+1, 1, 1, 1, 1, 1),
		capsOf(4), capsOf(4, 1, 1, 1, 1), capsOf(4, 1, 1, 1, 1, 1, 1),
		capsOf(4, 5, 1, 1, 1, 1), capsOf(4, 1, 1, 5, 1, 1), capsOf(4, 0, 1, 1, 1, 1), capsOf(4, 1, 0, 1, 1, 1), capsOf(4, 1, 1, 1, 1, -1),
		capsOf(4, 1, most+1, 1, 1, 1),
	} {
		wantFault(t, text, c, api.Fault{Err: api.ErrCaps})
	}
	// As many nodes as may be, and one more.
	text = strings.Replace(text, "queue i", "queue j ghost; queue i", 1)
	load(t, text, capsOf(most-1, most-1, most, most-1, 1, most, most))
	load(t, text, capsOf(most, most/2, most, most/2-1, 1, most, most))
	wantFault(t, text, capsOf(most, most, most, 1, 1, most, most), api.Fault{Err: api.ErrCaps})
	wantFault(t, text, capsOf(most, most/2, most, most/2, 1, most, most), api.Fault{Err: api.ErrCaps})
}

// Of several faults the first one in the layers' order is told, not in the text's; each one here stands behind that of the next layer.
func TestP2001Order(t *testing.T) {
	text := ahead + "require size > 5; on hit q { " + deep + " } on ghost g { evict q back; } on miss { if 7 { } call r; } } @"
	small, five, six := capsOf(4, 5, 1), capsOf(5, 5, 1), capsOf(6, 5, 1)
	for _, step := range []struct {
		c        api.Caps
		err      api.Errno
		at       string
		was, put string
	}{
		{small, api.ErrByte, "@", "@", ""},
		{small, api.ErrUnknown, "call r", "call r;", "pass;"},
		{small, api.ErrType, "7", "7", "true"},
		{small, api.ErrCaps, "#", "", ""},
		{five, api.ErrRequire, "require", "", ""},
		{six, api.ErrEmpty, "evict", "evict", "if full(q) { } else if !empty(q) { evict"},
	} {
		wantFault(t, text, step.c, api.Fault{Err: step.err, At: strings.Index(text, step.at)})
		text = strings.Replace(text, step.was, step.put, 1)
	}
	text = strings.Replace(text, "evict q back;", "evict q back; }", 1)
	wantFault(t, text, six, api.Fault{Err: api.ErrCost, At: strings.Index(text, "on hit")})
	load(t, strings.Replace(text, "4194304", "4", 1), six)
	wantFault(t, strings.Replace(text, "4194304", "4", 1), five, api.Fault{Err: api.ErrRequire, At: strings.Index(text, "require")})
}

// plainLoad is what P2001 says: the five, one behind the other.
func plainLoad(text string, c api.Caps) (p api.Policy, u api.Typed, fault api.Fault) {
	rows, places, fault := gram.Parse([]byte(text))
	if fault != (api.Fault{}) {
		return p, u, fault
	}
	p, fault = names.Resolve(rows)
	if fault == (api.Fault{}) {
		u, fault = typed.Check(p, c)
	}
	if fault == (api.Fault{}) {
		_, fault = room.Judge(p, u, c)
	}
	if fault == (api.Fault{}) {
		_, fault = cost.Bound(p, u)
	}
	if fault.Err != api.OK && fault.Err != api.ErrCaps {
		fault.At = places[fault.At]
	}
	return p, u, fault
}

// spoil changes a token of a text, or two.
func spoil(r *rand.Rand, text string) string {
	tokens, _ := lex.Scan([]byte(text))
	var words []string
	byKind := map[int][]string{}
	for _, x := range tokens[:len(tokens)-1] {
		word := text[x.At:x.End]
		words = append(words, word)
		byKind[x.Kind] = append(byKind[x.Kind], word)
	}
	for range 1 + r.Intn(2) {
		i := r.Intn(len(words))
		switch r.Intn(12) {
		case 0:
			words = slices.Delete(words, i, i+1)
		case 1:
			words = slices.Insert(words, i, words[r.Intn(len(words))])
		case 2:
			words[i] = []string{"@", "1073741825", "front", ";"}[r.Intn(4)]
		default:
			words[i] = another(r, words[i], byKind)
		}
	}
	return strings.Join(words, []string{" ", "\n", "\t ", " # so\n"}[r.Intn(4)])
}

// another is a word that the grammar most often takes in the place of one.
func another(r *rand.Rand, word string, byKind map[int][]string) string {
	if word == "ghost" || word == "resident" {
		return []string{"ghost", "resident"}[r.Intn(2)]
	}
	tokens, _ := lex.Scan([]byte(word))
	if tokens[0].Kind == api.TokNumber || word == "size" || word == "total" || word == "true" {
		return []string{"0", "300", "4194305", "true", "total", "size", "len ( a0 )"}[r.Intn(7)]
	}
	list := byKind[tokens[0].Kind]
	return list[r.Intn(len(list))]
}

// Texts by chance, whole and spoilt, under capacities that fit or do not.
func TestP2006Chance(t *testing.T) {
	met := map[api.Errno]int{}
	for seed := range int64(4000) {
		m := newMaker(seed, []float64{1, 0.97, 0.9}[seed%3])
		p, text := m.policy()
		c := m.caps(p.Queues)
		if seed%4 > 0 {
			text = spoil(m.Rand, text)
		}
		if m.Intn(20) == 0 {
			c.Queues[m.Intn(len(c.Queues))] = 7
		}
		_, _, want := plainLoad(text, c)
		e, got := engine.Load([]byte(text), c)
		if got != want || (e == nil) != (want != api.Fault{}) {
			t.Fatalf("%s\n%v: %v, %v; want %v", text, c, e, got, want)
		}
		met[got.Err]++
	}
	for _, err := range []api.Errno{api.ErrByte, api.ErrNumber, api.ErrToken, api.ErrTwice, api.ErrUnknown, api.ErrOther, api.ErrType, api.ErrConst, api.ErrKind, api.ErrRange, api.ErrCaps, api.ErrFull, api.ErrEmpty, api.ErrWhere, api.ErrLoop} {
		if met[err] < 5 {
			t.Errorf("%v: %d times", err, met[err])
		}
	}
	if met[api.OK] < 600 {
		t.Errorf("%d were loaded", met[api.OK])
	}
}

// Any bytes have an answer.
func TestP1Bytes(t *testing.T) {
	r := rand.New(rand.NewSource(1))
	for range 3000 {
		b := make([]byte, r.Intn(60))
		for i := range b {
			b[i] = byte(r.Intn(256))
		}
		if e, fault := engine.Load(b, capsOf(1)); e != nil || fault.Err == api.OK {
			t.Fatalf("%q: %v", b, fault)
		}
	}
	wantFault(t, "", api.Caps{}, api.Fault{Err: api.ErrToken})
	if e, fault := engine.Load(nil, api.Caps{}); e != nil || fault != (api.Fault{Err: api.ErrToken}) {
		t.Errorf("no text: %v, %v", e, fault)
	}
}
