package engine_test

import (
	"math/rand"
	"strings"
	"testing"

	"winnow/api"
	"winnow/code"
	"winnow/engine"
	"winnow/gram"
	"winnow/lex"
	"winnow/model"
	"winnow/show"
)

// wordsOf are a text's tokens.
func wordsOf(t *testing.T, text string) []string {
	t.Helper()
	tokens, fault := lex.Scan([]byte(text))
	if fault != (api.Fault{}) {
		t.Fatalf("%s: %v", text, fault)
	}
	var words []string
	for _, x := range tokens[:len(tokens)-1] {
		words = append(words, text[x.At:x.End])
	}
	return words
}

// blanked is a text with other blanks and remarks between its tokens.
func blanked(t *testing.T, r *rand.Rand, text string) string {
	var out strings.Builder
	for _, word := range wordsOf(t, text) {
		out.WriteString([]string{" ", "\n", "\t\r ", "# { ( @\n", "   ##\n\n"}[r.Intn(5)] + word)
	}
	return out.String()
}

// bracketed has brackets around what is an expression wherever it stands.
func bracketed(t *testing.T, r *rand.Rand, text string) string {
	words := wordsOf(t, text)
	var out strings.Builder
	for i := 0; i < len(words); i++ {
		word, last := words[i], i
		switch {
		case strings.Contains(" true false size total ", " "+word+" ") || '0' <= word[0] && word[0] <= '9':
		case strings.Contains(" len cap empty full at ", " "+word+" "):
			last = i + 3
		default:
			out.WriteString(" " + word)
			continue
		}
		n := r.Intn(4)
		out.WriteString(" " + strings.Repeat("(", n) + strings.Join(words[i:last+1], " ") + strings.Repeat(")", n))
		i = last
	}
	return out.String()
}

// printed is the print of a text's tree: without a bracket that need not be there.
func printed(t *testing.T, text string) string {
	t.Helper()
	rows, _, fault := gram.Parse([]byte(text))
	out, err := show.Print(rows)
	if fault != (api.Fault{}) || err != api.OK {
		t.Fatalf("%s: %v, %v", text, fault, err)
	}
	return out
}

// looks are a text written otherwise.
func looks(t *testing.T, r *rand.Rand, text string) []string {
	t.Helper()
	return []string{
		text + "\n\n \t\r# }} @ policy p { }", text + "#", "\n# policy p {\n" + text,
		blanked(t, r, text), bracketed(t, r, text), printed(t, text), bracketed(t, r, printed(t, text)), blanked(t, r, bracketed(t, r, text)),
	}
}

// wantAlike wants two texts to be loaded to engines that answer alike.
func wantAlike(t *testing.T, r *rand.Rand, text, other string, c api.Caps) {
	t.Helper()
	e, x := load(t, text, c), load(t, other, c)
	if !code.Same(e.Program(), x.Program()) {
		t.Fatalf("%s\n%s\n%v; %v", text, other, e.Program(), x.Program())
	}
	list := operations(r, 40)
	if got, want := x.Play(list), e.Play(list); !sameTrace(got, want) || !sameState(x.State(), e.State()) || x.Stats() != e.Stats() || !sameLayout(x.Layout(), e.Layout()) {
		t.Fatalf("%s\n%s\n%v; want %v", text, other, got, want)
	}
}

// How a text is written changes nothing of what its engine answers.
func TestP2006Looks(t *testing.T) {
	for seed := range int64(100) {
		d := chance(t, seed+90000)
		for _, other := range looks(t, d.Rand, d.text) {
			wantAlike(t, d.Rand, d.text, other, d.c)
		}
	}
	r := rand.New(rand.NewSource(6))
	for kind := range least {
		text, _ := model.Source(kind)
		c, _ := model.Caps(kind, 11)
		for range 5 {
			for _, other := range looks(t, r, text) {
				wantAlike(t, r, text, other, c)
			}
		}
	}
}

// Nor does it change which fault there is, but for its place.
func TestP2006FaultsLook(t *testing.T) {
	met := 0
	for seed := range int64(400) {
		m := newMaker(seed+100000, 0.8)
		p, text := m.policy()
		c := m.caps(p.Queues)
		_, _, want := plainLoad(text, c)
		if want.Err == api.OK {
			continue
		}
		met++
		for _, other := range looks(t, m.Rand, text) {
			if e, fault := engine.Load([]byte(other), c); e != nil || fault.Err != want.Err {
				t.Fatalf("%s\n%v: %v; want %v", other, c, fault, want)
			}
		}
	}
	if met < 200 {
		t.Errorf("%d faults", met)
	}
}
