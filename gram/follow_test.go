package gram_test

import (
	"math"
	"math/rand"
	"slices"
	"strings"
	"testing"

	"winnow/api"
	"winnow/gram"
)

// samples are an expression of each kind.
var samples = map[int]string{
	api.NNum: "1", api.NVarOf: "a", api.NTrue: "true", api.NFalse: "false", api.NLen: "len(q)", api.NCap: "cap(q)", api.NSize: "size", api.NTotal: "total",
	api.NEmpty: "empty(q)", api.NFull: "full(q)", api.NAt: "at(q)", api.NTagOf: "t(x)", api.NMin: "min(1,2)", api.NMax: "max(1,2)",
	api.NNeg: "-1", api.NNot: "!1", api.NMul: "1*2", api.NDiv: "1/2", api.NAdd: "1+2", api.NSub: "1-2",
	api.NEq: "1==2", api.NNe: "1!=2", api.NLt: "1<2", api.NLe: "1<=2", api.NGt: "1>2", api.NGe: "1>=2", api.NAnd: "1&&2", api.NOr: "1||2",
}

// around is an expression of each kind that has expressions as kids, a ? for each.
var around = map[int]string{
	api.NMin: "min(?,?)", api.NMax: "max(?,?)", api.NNeg: "-?", api.NNot: "!?", api.NMul: "?*?", api.NDiv: "?/?", api.NAdd: "?+?", api.NSub: "?-?",
	api.NEq: "?==?", api.NNe: "?!=?", api.NLt: "?<?", api.NLe: "?<=?", api.NGt: "?>?", api.NGe: "?>=?", api.NAnd: "?&&?", api.NOr: "?||?",
}

// Brackets may be left out just where Loose is false, and put anywhere.
func TestP308EachPair(t *testing.T) {
	for parent, form := range around {
		for kind, sample := range samples {
			for kid := range strings.Count(form, "?") {
				fill := func(e string) string {
					text := strings.Replace(form, "?", "7", kid)
					text = strings.Replace(text, "?", e, 1)
					return required(strings.Replace(text, "?", "7", 1))
				}
				with := wantRight(t, fill("("+sample+")"))
				twice := wantRight(t, fill("(("+sample+"))"))
				without, _, f := gram.Parse([]byte(fill(sample)))
				same := f == api.Fault{} && slices.Equal(with, without)
				if same == gram.Loose(parent, kid, kind) || !slices.Equal(with, twice) {
					t.Errorf("%s and without brackets: the same rows: %v", fill("("+sample+")"), same)
				}
				at := 3 + kid*(gram.End(with, 3)-3)
				if with[2].Kind != parent || gram.Kids(with, 2)[kid] != at || with[at].Kind != kind {
					t.Errorf("%s: %v", fill("("+sample+")"), with)
				}
			}
		}
	}
}

// Wherever an expression stands, brackets around all of it change no row.
func TestP308AroundAll(t *testing.T) {
	for _, form := range []string{
		"policy p{require ?;}", "policy p{var v=? in 1..2;}", "policy p{var v=1 in ?..2;}", "policy p{var v=1 in 2..?;}", "policy p{tag t in ?;}",
		done("if ?{}"), done("if 1{}else if ?{}"), done("loop ? while 1{}"), done("loop 1 while ?{}"), done("set v=?;"), done("mark x t=?;"), required("min(?,?)"), required("((?))"),
	} {
		for _, sample := range samples {
			a := wantRight(t, strings.ReplaceAll(form, "?", sample))
			b := wantRight(t, strings.ReplaceAll(form, "?", "("+sample+")"))
			if !slices.Equal(a, b) {
				t.Errorf("%s with %s and with (%s): %v, %v", form, sample, sample, a, b)
			}
		}
	}
}

func TestP307RightTexts(t *testing.T) {
	r := rand.New(rand.NewSource(307))
	for range 300 {
		text := strings.Join(rightText(r, 10+r.Intn(200)), " ")
		if f, _ := derived(text); f != (api.Fault{}) {
			t.Fatalf("%q: %v", text, f)
		}
		wantDerived(t, text)
	}
}

// held is a text with n signs of one rule in a row, and its rows.
func held(sign string, kind, n int) (string, []api.Row) {
	rows := append([]api.Row{of(api.NPolicy, "p", 1), row(api.NRequire, 1)}, slices.Repeat([]api.Row{row(kind, 2)}, n)...)
	return required("1" + strings.Repeat(sign+"1", n)), append(rows, slices.Repeat([]api.Row{number(1)}, n+1)...)
}

// Long texts, and trees as deep as they can be, are gone through in a moment.
func TestP301LongTexts(t *testing.T) {
	most := (api.MaxTokens - 8) / 2
	for sign, kind := range map[string]int{"-": api.NSub, "/": api.NDiv, "&&": api.NAnd, "||": api.NOr} {
		text, want := held(sign, kind, most)
		rows := wantRight(t, text)
		if !slices.Equal(rows, want) {
			t.Errorf("%d times %q: other rows", most, sign)
		}
		wantCheck(t, rows, api.OK, 0)
		if end, levels := gram.End(rows, 2), gram.Levels(rows); end != len(rows) || levels != 1 {
			t.Errorf("%d times %q: End %d, Levels %d", most, sign, end, levels)
		}
	}
	tails := (api.MaxTokens - 10) / 5
	rows := wantRight(t, done(strings.Repeat("if a{}else ", tails)+"{}"))
	wantCheck(t, rows, api.OK, 0)
	last := 0
	for _, below := range gram.Walk(rows) {
		last = below
	}
	if last != tails+3 || gram.Levels(rows) != 3 {
		t.Errorf("%d times else: %d rows above the last one, Levels %d", tails, last, gram.Levels(rows))
	}
}

// All rules of signs around one long row of them, on each level.
func TestP301LongAndDeep(t *testing.T) {
	rows := wantRight(t, required(strings.Repeat("(", 62)+"1"+strings.Repeat("+1", 31000)+strings.Repeat(")*1+1<1&&1||1", 62)))
	if len(rows) != 2+62001+62*10 {
		t.Errorf("%d rows", len(rows))
	}
	wantCheck(t, rows, api.OK, 0)
}

// More rows than any text has, each below the one ahead of it.
func TestP302DeeperThanTexts(t *testing.T) {
	const n = 1 << 18
	rows := []api.Row{of(api.NPolicy, "p", 1), row(api.NMiss, 1), row(api.NBlock, 1)}
	for range n {
		rows = append(rows, row(api.NIf, 3), row(api.NTrue, 0), row(api.NBlock, 0))
	}
	rows = append(rows, row(api.NBlock, 0))
	wantCheck(t, rows, api.OK, 0)
	wantCheck(t, rows[:len(rows)-1], api.ErrShape, len(rows)-1)
	if end := gram.End(rows, 2); end != len(rows) {
		t.Errorf("End: %d of %d", end, len(rows))
	}
	if kids := gram.Kids(rows, 3); !slices.Equal(kids, []int{4, 5, 6}) {
		t.Errorf("Kids: %v", kids)
	}
	below := 0
	for _, below = range gram.Walk(rows) {
	}
	if below != n+3 {
		t.Errorf("Walk: the last row hangs below %d", below)
	}
}

// texts are right ones and wrong ones.
func texts() []string {
	list := []string{"", required("1-2-3*(4+t(x))<-len(q)"), done("if a{evict q back to g front;}else if b{}else{pass;}"), "policy p{queue q ghost;var v=1 in 0..2;on miss{}"}
	for _, marked := range wrong {
		list = append(list, strings.Replace(marked, "^", "", 1))
	}
	return list
}

func TestP2Parse(t *testing.T) {
	for _, text := range texts() {
		room := []byte(text + " spare room")
		given := room[:len(text)]
		rows, places, f := gram.Parse(given)
		if string(room) != text+" spare room" {
			t.Errorf("Parse(%q) changed what it was given: %q", text, room)
		}
		was, at := slices.Clone(rows), slices.Clone(places)
		for i := range room {
			room[i] = '!'
		}
		again, placesAgain, g := gram.Parse([]byte(text))
		if f != g || !slices.Equal(rows, was) || !slices.Equal(again, was) || !slices.Equal(places, at) || !slices.Equal(placesAgain, at) {
			t.Errorf("Parse(%q): %v, %v, %v; then %v, %v, %v", text, rows, places, f, again, placesAgain, g)
		}
	}
}

// What is written to one answer, its spare room too, is not seen in another.
func TestP2SpareRoom(t *testing.T) {
	text := []byte(required("1-2-3*(4+t(x))<-len(q)"))
	rows, places, _ := gram.Parse(text)
	kids := gram.Kids(rows, 2)
	wasRows, wasPlaces, wasKids := slices.Clone(rows), slices.Clone(places), slices.Clone(kids)
	otherRows, otherPlaces, _ := gram.Parse(text)
	otherKids := gram.Kids(rows, 2)
	clear(otherRows[:cap(otherRows)])
	clear(otherPlaces[:cap(otherPlaces)])
	clear(otherKids[:cap(otherKids)])
	clear(rows[len(rows):cap(rows)])
	clear(places[len(places):cap(places)])
	clear(kids[len(kids):cap(kids)])
	if !slices.Equal(rows, wasRows) || !slices.Equal(places, wasPlaces) || !slices.Equal(kids, wasKids) {
		t.Error("answers share memory")
	}
}

func TestP2Trees(t *testing.T) {
	spare := api.Row{Kind: 99, Name: "spare", Kids: 3}
	eachTree(2, 200, func(r *rand.Rand, n *node) {
		rows, _ := n.lay(0, nil, nil)
		room := append(slices.Clone(rows), spare, spare)
		given := room[:len(rows)]
		gram.Check(given)
		gram.Levels(given)
		for at := range gram.Walk(given) {
			gram.Kids(given, at)
			gram.End(given, at)
		}
		if !slices.Equal(room[:len(rows)], rows) || room[len(rows)] != spare || room[len(rows)+1] != spare {
			t.Errorf("%v was changed: %v", rows, room)
		}
	})
}

func walked(seq func(yield func(int, int) bool)) []int {
	var list []int
	for at, below := range seq {
		list = append(list, at, below)
	}
	return list
}

func TestP5Walk(t *testing.T) {
	rows := wantRight(t, required("1-2-3*(4+t(x))<-len(q)"))
	seq := gram.Walk(rows)
	want := walked(seq)
	if len(want) != 2*len(rows) {
		t.Fatalf("Walk: %v", want)
	}
	for n := range len(rows) {
		count := 0
		for at := range seq {
			if count++; at == n {
				break
			}
		}
		if count != n+1 {
			t.Errorf("Walk, left at row %d: %d rows", n, count)
		}
	}
	var within []int
	for at, below := range seq {
		within = append(within, at, below)
		if inner := walked(seq); !slices.Equal(inner, want) {
			t.Errorf("Walk within itself: %v; want %v", inner, want)
		}
		rows[at] = api.Row{Kind: api.NBlock, Kids: 5}
	}
	if !slices.Equal(within, want) || !slices.Equal(walked(seq), want) {
		t.Errorf("Walk, the rows changed meanwhile: %v, %v; want %v", within, walked(seq), want)
	}
}

func TestP306NoRows(t *testing.T) {
	for at := range gram.Walk(nil) {
		t.Errorf("Walk(nil): %d", at)
	}
}

// What may not be handed in is taken without a panic, and the calls end.
func TestP8WrongRows(t *testing.T) {
	r := rand.New(rand.NewSource(8))
	numbers := append([]int{6, 7, 100, math.MinInt + 1, math.MaxInt - 1}, oddNums...)
	for range 3000 {
		rows := make([]api.Row, r.Intn(12))
		for i := range rows {
			rows[i] = api.Row{Kind: r.Intn(api.NCount+3) - 1, Name: oddNames[r.Intn(len(oddNames))], End: r.Intn(4) - 1, N: numbers[r.Intn(len(numbers))], Kids: numbers[r.Intn(len(numbers))]}
		}
		wantChecked(t, rows)
		gram.Levels(rows)
		if list := walked(gram.Walk(rows)); len(list) != 2*len(rows) {
			t.Errorf("Walk(%v): %v", rows, list)
		}
		for _, at := range append(numbers, len(rows)-1, len(rows)) {
			gram.End(rows, at)
			gram.Kids(rows, at)
			gram.Loose(at, r.Intn(3)-1, numbers[r.Intn(len(numbers))])
		}
	}
}

// Any bytes are taken.
func TestP1AnyBytes(t *testing.T) {
	r := rand.New(rand.NewSource(1))
	for range 3000 {
		text := make([]byte, r.Intn(40))
		for i := range text {
			text[i] = byte(r.Intn(256))
		}
		wantDerived(t, string(text))
		wantDerived(t, "policy p{require "+string(text))
		wantDerived(t, done(string(text)))
	}
}
