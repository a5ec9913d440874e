package lab_test

import (
	"fmt"
	"math/rand"
	"slices"
	"strings"
	"testing"

	"winnow/api"
	"winnow/lab"
	"winnow/model"
)

// writer writes scripts by chance.
type writer struct {
	*rand.Rand
	keys int
}

func (w *writer) one(list ...string) string { return list[w.Intn(len(list))] }

func (w *writer) number(most int) string {
	if w.Intn(25) == 0 {
		return w.one("0", "-1", "-7", "4194305", "999999999999999", "-999999999999999", "0003", "-02", "-0", "1000000000000000")
	}
	return fmt.Sprint(w.Intn(most))
}

func (w *writer) key() string {
	if w.Intn(40) == 0 {
		return w.one("18446744073709551615", "18446744073709551616", "00000000000000000003", "000000000000000000003", "-1", "007")
	}
	return fmt.Sprint(w.Intn(w.keys))
}

// quote writes bytes as a word, in one way or another.
func (w *writer) quote(text string) string {
	quoted := []byte{'"'}
	for _, b := range []byte(text) {
		switch {
		case b == '"' || b == '\\' || b == '\n' || w.Intn(60) == 0:
			quoted = fmt.Appendf(quoted, `\x%02x`, b)
		case b == '\t' && w.Intn(2) == 0:
			quoted = append(quoted, `\t`...)
		default:
			quoted = append(quoted, b)
		}
	}
	return string(append(quoted, '"'))
}

func (w *writer) kind() string { return w.one("fifo", "lru", "clock", "twoq", "s3fifo", "arc") }

// policy is a text, most often a right one, and capacities, which most often fit.
func (w *writer) policy() (string, api.Caps) {
	m := newMaker(w.Int63(), []float64{1, 1, 0.9, 0.5}[w.Intn(4)])
	p, text := m.policy()
	c := m.caps(p.Queues)
	if w.Intn(3) == 0 {
		kind := w.Intn(api.LCount)
		text, _ = model.Source(kind)
		c, _ = model.Caps(kind, 10+w.Intn(5))
	}
	if w.Intn(4) == 0 {
		text = strings.ReplaceAll(text, " ", w.one("\n", " # é\n\t", "\t", "\r\n"))
	}
	for w.Intn(5) == 0 {
		text = w.spoil(text)
	}
	if w.Intn(12) == 0 {
		c.Queues = append(c.Queues, 3)
	}
	return text, c
}

// spoil takes a byte out, or puts one in.
func (w *writer) spoil(text string) string {
	at := w.Intn(len(text) + 1)
	if w.Intn(2) == 0 && at < len(text) {
		return text[:at] + text[at+1:]
	}
	return text[:at] + w.one(" ", "\"", "\\", "#", "x", "1", "-", "\t", "@", "é", "\xff", ";", "}") + text[at:]
}

// words are some, by the form of a name.
func (w *writer) words(form string) string {
	list := []string{}
	for _, sign := range form {
		switch sign {
		case 'N':
			list = append(list, w.number(40))
		case 'P':
			list = append(list, w.kind())
		case 'K':
			list = append(list, w.key())
		case '*':
			for w.Intn(5) > 0 {
				list = append(list, w.key())
			}
		}
	}
	return strings.Join(list, w.one(" ", " ", "\t", "  "))
}

func (w *writer) line() string {
	name := w.one("load", "text", "text", "print", "source", "curve", "access", "access", "access", "access", "access", "access", "remove", "remove", "zipf", "uniform", "loop", "stats", "state", "state", "code", "size", "", "#")
	line := name + " " + w.words(forms[name])
	switch name {
	case "text":
		text, c := w.policy()
		line = fmt.Sprint("text ", w.quote(text), " ", c.Size, " ", list(c.Queues))
	case "print":
		text, _ := w.policy()
		line = "print " + w.quote(text)
	}
	for w.Intn(12) == 0 {
		line = w.spoil(line)
	}
	if w.Intn(10) == 0 {
		line += w.one(" # now", " #", " 1", " x", " \"\"")
	}
	return strings.ReplaceAll(line, "\n", " ")
}

func (w *writer) script(lines int) []string {
	var list []string
	for range lines {
		list = append(list, w.line())
	}
	return list
}

func newWriter(seed int64) *writer {
	r := rand.New(rand.NewSource(seed))
	return &writer{r, 2 + r.Intn(30)}
}

// Run answers what the table says, over the meanings of texts (T1, T2).
func TestP2105Chance(t *testing.T) {
	met := map[string]int{}
	for seed := range int64(1000) {
		script := newWriter(seed).script(30)
		text := strings.Join(script, "\n")
		got, want := lab.Run(text), plainRun(text)
		if got != want {
			for i, line := range strings.Split(want, "\n") {
				if other := strings.Split(got, "\n"); i >= len(other) || other[i] != line {
					t.Fatalf("seed %d, line %d of\n%s\n%s; want %s", seed, i+1, text, other[min(i, len(other)-1)], line)
				}
			}
			t.Fatalf("seed %d: more lines", seed)
		}
		for i, line := range strings.Split(strings.TrimSuffix(want, "\n"), "\n") {
			name, _, _ := strings.Cut(script[i], " ")
			answer, _, _ := strings.Cut(line, " ")
			met[name+": "+answer[:min(4, len(answer))]]++
		}
	}
	for _, sort := range []string{"load: ok", "load: arg", "load: word", "text: ok", "text: caps", "text: toke", "text: full", "text: empt", "text: wher", "text: unkn", "print: ok", "print: toke", "source: ok", "source: word", "curve: ok", "curve: arg", "access: none", "access: -", "access: +", "remove: none", "remove: resi", "remove: ghos", "zipf: ok", "zipf: arg", "zipf: none", "uniform: ok", "loop: ok", "stats: ok", "stats: none", "stats: word", "state: ok", "code: ok", "size: ok"} {
		if met[sort] < 10 {
			t.Errorf("%s was met %d times", sort, met[sort])
		}
	}
}

// Lines that are put behind change no answer ahead of them.
func TestP2107Behind(t *testing.T) {
	for seed := range int64(100) {
		w := newWriter(seed + 5000)
		script := w.script(25)
		all := strings.Split(lab.Run(strings.Join(script, "\n")), "\n")
		for n := range len(script) + 1 {
			front := strings.Join(script[:n], "\n")
			if n > 0 && w.Intn(2) == 0 || n > 0 && script[n-1] == "" {
				front += "\n"
			}
			want := strings.Join(append(slices.Clone(all[:n]), ""), "\n")
			if got := lab.Run(front); got != want {
				t.Fatalf("seed %d, %d lines: %s; want %s", seed, n, got, want)
			}
		}
	}
}

// A line that is answered by word, none or is empty may as well not be there.
func TestP2107Nothing(t *testing.T) {
	gone := 0
	for seed := range int64(250) {
		script := newWriter(seed + 6000).script(40)
		var kept, want []string
		for i, answer := range strings.Split(strings.TrimSuffix(lab.Run(strings.Join(script, "\n")+"\n"), "\n"), "\n") {
			if answer != "word" && answer != "none" && answer != "" {
				kept, want = append(kept, script[i]), append(want, answer)
			} else {
				gone++
			}
		}
		if got := lab.Run(strings.Join(kept, "\n")); got != strings.Join(append(want, ""), "\n") {
			t.Fatalf("seed %d: %s", seed, got)
		}
	}
	if gone < 1500 {
		t.Errorf("only %d lines were left out", gone)
	}
}

// The same script is answered alike, whatever was run ahead of it (P3).
func TestP2105Same(t *testing.T) {
	var scripts, want []string
	for seed := range int64(60) {
		scripts = append(scripts, strings.Join(newWriter(seed+7000).script(30), "\n"))
		want = append(want, lab.Run(scripts[seed]))
	}
	for i := len(scripts) - 1; i >= 0; i-- {
		if got := lab.Run(scripts[i]); got != want[i] {
			t.Errorf("seed %d: %s; it was %s", i, got, want[i])
		}
	}
}

// Whatever bytes a script is of: as many answers as lines, and no panic.
func TestP1AnyBytes(t *testing.T) {
	r := rand.New(rand.NewSource(1))
	parts := []string{"\n", "\n", "\n", " ", " ", "\t", "\"", "\\", "#", "load", "text", "access", "lru", "fifo", "stats", "state", "zipf", "print", "code", "1", "2", "-", "9", "policy", "{", "}", "\xff", "\x00", "é", "\r"}
	for range 20000 {
		script := ""
		for range r.Intn(60) {
			script += parts[r.Intn(len(parts))]
		}
		got := lab.Run(script)
		if want := plainRun(script); got != want {
			t.Fatalf("%q: %q; want %q", script, got, want)
		}
	}
}
