package gram_test

import (
	"math/rand"
	"slices"
	"strings"
	"testing"

	"winnow/api"
	"winnow/gram"
	"winnow/lex"
)

// grammar is the chapter's table, word for word, but for END (the text's end), and UP and DOWN (the level of a sign of bare).
const grammar = `
policy = "policy" NAME "{" { decl } { event } "}" END
decl = "queue" NAME ( "resident" | "ghost" ) ";" | "var" NAME "=" or "in" or ".." or ";" | "tag" NAME "in" or ";" | "require" or ";" | "rule" NAME block
event = "on" ( "hit" NAME | "ghost" NAME | "miss" ) block
block = "{" { doing } "}"
doing = block | if | "loop" or "while" or block | "set" NAME "=" or ";" | "mark" item NAME "=" or ";" | "insert" NAME end ";" | "move" NAME end ";" | "forget" ";" | "shift" NAME end NAME end ";" | "evict" NAME end [ "to" NAME end ] ";" | "drop" NAME end ";" | "call" NAME ";" | "pass" ";"
if = "if" or block [ "else" ( block | if ) ]
end = "front" | "back"
item = "x" | "front" "(" NAME ")" | "back" "(" NAME ")"
or = and { "||" and }
and = compare { "&&" compare }
compare = sum [ ( "==" | "!=" | "<" | "<=" | ">" | ">=" ) sum ]
sum = term { ( "+" | "-" ) term }
term = bare { ( "*" | "/" ) bare }
bare = "-" UP bare DOWN | "!" UP bare DOWN | first
first = NUMBER | "true" | "false" | "size" | "total" | ( "len" | "cap" | "empty" | "full" | "at" ) "(" NAME ")" | ( "min" | "max" ) "(" or "," or ")" | NAME | NAME "(" item ")" | "(" or ")"
`

// part is a piece of the grammar: a word of it, parts in a row, one of several, any number of them.
type part struct {
	kind  string // "word", "row", "one", "many"
	word  string
	parts []*part
}

type reader struct {
	words []string
}

func (r *reader) next() string {
	if len(r.words) == 0 {
		return ""
	}
	return r.words[0]
}

func (r *reader) ways() *part {
	all := &part{kind: "one"}
	for {
		row := &part{kind: "row"}
		for w := r.next(); w != "" && !strings.Contains("|)]}", w); w = r.next() {
			r.words = r.words[1:]
			switch w {
			case "(", "[", "{":
				inner := r.ways()
				r.words = r.words[1:]
				if w == "[" {
					inner.parts = append(inner.parts, &part{kind: "row"})
				}
				if w == "{" {
					inner = &part{kind: "many", parts: []*part{inner}}
				}
				row.parts = append(row.parts, inner)
			default:
				row.parts = append(row.parts, &part{kind: "word", word: w})
			}
		}
		all.parts = append(all.parts, row)
		if r.next() != "|" {
			return all
		}
		r.words = r.words[1:]
	}
}

func rulesOf(table string) map[string]*part {
	rules := map[string]*part{}
	for _, line := range strings.Split(strings.TrimSpace(table), "\n") {
		name, body, _ := strings.Cut(line, " = ")
		r := &reader{strings.Fields(body)}
		rules[name] = r.ways()
	}
	return rules
}

var rules = rulesOf(grammar)

// stack is what must yet come of a way to derive a text.
type stack struct {
	top  *part
	rest *stack
}

// state is one way of deriving the tokens so far: a word stands on top of its stack.
type state struct {
	stack  *stack
	levels int
}

// states are all ways; two of them that are the same count twice.
type states []state

// unfold goes on from a stack to all that have a word on top.
func unfold(s *stack, levels int, to states) states {
	top, rest := s.top, s.rest
	switch top.kind {
	case "row":
		for _, p := range slices.Backward(top.parts) {
			rest = &stack{p, rest}
		}
		return unfold(rest, levels, to)
	case "one":
		for _, p := range top.parts {
			to = unfold(&stack{p, rest}, levels, to)
		}
		return to
	case "many":
		to = unfold(rest, levels, to)
		return unfold(&stack{top.parts[0], s}, levels, to)
	}
	switch rule := rules[top.word]; {
	case rule != nil:
		return unfold(&stack{rule, rest}, levels, to)
	case top.word == "UP":
		return unfold(rest, levels+1, to)
	case top.word == "DOWN":
		return unfold(rest, levels-1, to)
	}
	return append(to, state{s, levels})
}

// begun is what a text begins with; behind its end nothing comes.
func begun() states {
	nothing := &part{kind: "word", word: "NOTHING"}
	return unfold(&stack{rules["policy"], &stack{nothing, nil}}, 0, nil)
}

// step takes a token, written as the grammar writes it; and tells whether it opened more levels than there may be.
func (all states) step(word string) (next states, nest bool) {
	for _, s := range all {
		if s.stack.top.word != word {
			continue
		}
		levels := s.levels
		switch word {
		case `"{"`, `"("`:
			levels++
		case `"}"`, `")"`:
			levels--
		}
		opened := levels > s.levels || s.stack.rest.top.word == "UP"
		nest = nest || opened && s.levels == api.MaxLevels
		next = unfold(s.stack.rest, levels, next)
	}
	return next, nest
}

func written(text string, k api.Token) string {
	switch k.Kind {
	case api.TokName:
		return "NAME"
	case api.TokNumber:
		return "NUMBER"
	case api.TokEnd:
		return "END"
	}
	return `"` + text[k.At:k.End] + `"`
}

// derived tells by the grammar's table what Parse must find wrong with a text, and in how many ways it is derived.
func derived(text string) (api.Fault, int) {
	tokens, fault := lex.Scan([]byte(text))
	if fault.Err == api.ErrLong {
		return fault, 0
	}
	if fault != (api.Fault{}) {
		tokens, _ = lex.Scan([]byte(text[:fault.At]))
		tokens = tokens[:len(tokens)-1]
	}
	all := begun()
	for _, k := range tokens {
		next, nest := all.step(written(text, k))
		if len(next) == 0 {
			return api.Fault{Err: api.ErrToken, At: k.At}, 0
		}
		if nest {
			return api.Fault{Err: api.ErrNest, At: k.At}, 0
		}
		all = next
	}
	return fault, len(all)
}

// wantDerived holds Parse of a text against the grammar's table.
func wantDerived(t *testing.T, text string) {
	t.Helper()
	want, ways := derived(text)
	rows, places, f := gram.Parse([]byte(text))
	if f != want {
		t.Errorf("Parse(%.300q): %v; want %v", text, f, want)
		return
	}
	if f != (api.Fault{}) {
		if len(rows) > 0 || len(places) > 0 {
			t.Errorf("Parse(%.300q): %v, but rows %v, places %v", text, f, rows, places)
		}
		return
	}
	if ways != 1 {
		t.Errorf("P307: %.300q is derived in %d ways", text, ways)
	}
	if g := gram.Check(rows); g != (api.Fault{}) {
		t.Errorf("P307: Check of what Parse(%.300q) tells: %v", text, g)
	}
	wantOwnTokens(t, text, places, len(rows))
}

// wantOwnTokens asks that each row has the place of a token of its own.
func wantOwnTokens(t *testing.T, text string, places []int, rows int) {
	t.Helper()
	tokens, _ := lex.Scan([]byte(text))
	sorted := slices.Sorted(slices.Values(places))
	if len(slices.Compact(sorted)) != rows || len(places) != rows {
		t.Errorf("P307: %.300q: %d rows have the places %v", text, rows, places)
	}
	for _, at := range places {
		i := slices.IndexFunc(tokens, func(k api.Token) bool { return k.At == at })
		if i < 0 || tokens[i].Kind == api.TokEnd {
			t.Errorf("P307: %.300q: no token at %d", text, at)
		}
	}
}

const (
	keptWords = "policy queue resident ghost var in tag require rule on hit miss if else loop while set mark insert move forget shift evict to drop call pass front back x true false len cap size total empty full at min max"
	signs     = "{ } ( ) ; , .. = == != < <= > >= + - * / && || !"
)

// vocabulary is each kept word and sign, a name, a number, and such as are faults of lex.
var vocabulary = append(strings.Fields(keptWords+" "+signs), "q", "7", "1073741825", strings.Repeat("a", 65), "@")

// tokenOf tells a token by which a word of the grammar may be written.
func tokenOf(word string) string {
	switch word {
	case "NAME":
		return "q"
	case "NUMBER":
		return "7"
	}
	return strings.Trim(word, `"`)
}

// wantNext holds Parse of a text, of whose tokens all ways are known, and one token more against the grammar's table.
func wantNext(t *testing.T, text string, all states, token string) {
	t.Helper()
	scanned, want := lex.Scan([]byte(token))
	want.At = len(text)
	if want.Err == api.OK {
		next, nest := all.step(written(token, scanned[0]))
		switch {
		case len(next) == 0:
			want.Err = api.ErrToken
		case nest:
			want.Err = api.ErrNest
		case !slices.ContainsFunc(next, func(s state) bool { return s.stack.top.word == "END" }):
			want = api.Fault{Err: api.ErrToken, At: len(text) + len(token)}
		default:
			want = api.Fault{}
		}
	}
	if _, _, f := gram.Parse([]byte(text + token)); f != want {
		t.Errorf("Parse(%.300q): %v; want %v", text+token, f, want)
	}
}

// Ways through the grammar, taken by chance: behind each token of them each other one is tried.
func TestP301EachTokenBehindOthers(t *testing.T) {
	r := rand.New(rand.NewSource(3))
	for range 60 {
		text, all := "", begun()
		for range 45 {
			for _, next := range vocabulary {
				wantNext(t, text, all, next)
			}
			word := all[r.Intn(len(all))].stack.top.word
			if word == "END" {
				break
			}
			text += tokenOf(word) + " "
			all, _ = all.step(word)
		}
		wantDerived(t, text)
	}
}

// All rows of at most four tokens, where an expression may stand, as far as the first that may not stand there.
func TestP301ShortExpressions(t *testing.T) {
	list := strings.Fields("1 a ( ) - ! + * < && || , ; x front len min size")
	var grow func(e string, n int)
	grow = func(e string, n int) {
		for _, k := range list {
			wantDerived(t, "policy p{require "+e+k+" ")
			wantDerived(t, "policy p{require "+e+k+" ;}")
			if n > 1 {
				if f, _ := derived("policy p{require " + e + k + " "); f.At == len(e)+len(k)+18 {
					grow(e+k+" ", n-1)
				}
			}
		}
	}
	grow("", 4)
}

// Texts that are right but for a token that was left out, put in, or put for another.
func TestP301OneTokenOther(t *testing.T) {
	r := rand.New(rand.NewSource(31))
	for range 400 {
		words := rightText(r, 60)
		at := r.Intn(len(words))
		other := vocabulary[r.Intn(len(vocabulary))]
		wantDerived(t, strings.Join(words, " "))
		wantDerived(t, strings.Join(slices.Delete(slices.Clone(words), at, at+1), " "))
		wantDerived(t, strings.Join(slices.Insert(slices.Clone(words), at, other), " "))
		words[at] = other
		wantDerived(t, strings.Join(words, " "))
	}
}

// rightText tells tokens of a text of the grammar, taken by chance; behind n of them the shortest way to an end is looked for.
func rightText(r *rand.Rand, n int) []string {
	for {
		var words []string
		all := begun()
		for len(words) < 3*n {
			pick := all[r.Intn(len(all))].stack.top.word
			if len(words) > n {
				pick = closing(r, all)
			}
			if pick == "END" {
				return words
			}
			words = append(words, tokenOf(pick))
			next, nest := all.step(pick)
			if nest {
				break
			}
			all = next
		}
	}
}

// closing picks a token that ends something, if there is one.
func closing(r *rand.Rand, all states) string {
	for _, word := range []string{"END", `"}"`, `";"`, `")"`, `","`, `".."`, `"in"`, `"while"`, `"{"`, "NUMBER", "NAME", `"="`} {
		if slices.ContainsFunc(all, func(s state) bool { return s.stack.top.word == word }) {
			return word
		}
	}
	return all[r.Intn(len(all))].stack.top.word
}

// Texts whose levels come near to their most, and go beyond.
func TestP301DeepTexts(t *testing.T) {
	r := rand.New(rand.NewSource(33))
	opening := []string{"(", "-", "!", "min(1,", "max(", "1+(", "a<-", "-1*!", "t(x)||(", "len(q)-(", "!!!"}
	for range 100 {
		text := "policy p{" + []string{"require ", "on miss{set v=", "rule r{{{{{if 1+"}[r.Intn(3)]
		for range 30 + r.Intn(40) {
			text += opening[r.Intn(len(opening))]
		}
		for _, end := range []string{"", "1", "a", "t(x)", "t(back(q))", "-1", "full(q)", "1*-1", "1)*(", "@", "(@"} {
			wantDerived(t, text+end)
		}
	}
}
