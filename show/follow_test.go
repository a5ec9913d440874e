package show_test

import (
	"iter"
	"math"
	"math/rand"
	"slices"
	"strings"
	"testing"

	"winnow/api"
	"winnow/gram"
	"winnow/show"
)

func TestExample4(t *testing.T) {
	for _, text := range published {
		wantText(t, text, text)
		wantText(t, strings.Join(token.FindAllString(text, -1), " "), text)
	}
}

// wantBack tells whether a tree's text parses to the tree, and answers it.
func wantBack(t *testing.T, rows []api.Row) string {
	t.Helper()
	text, err := show.Print(rows)
	if err != api.OK {
		t.Fatalf("Print: %v", err)
	}
	back, _, fault := gram.Parse([]byte(text))
	if fault != (api.Fault{}) || !slices.Equal(back, rows) {
		t.Errorf("Parse of %q: %v, %v; want %v", short(text), back, fault, rows)
	}
	return text
}

func TestP404Trees(t *testing.T) {
	eachTree(404, 3000, func(c chance, n *node) {
		if gram.Check(n.rows(nil)) == (api.Fault{}) {
			wantBack(t, n.rows(nil))
		}
	})
}

// Trees that can't be more, by bytes, by tokens, by levels.
func TestP404Most(t *testing.T) {
	wantBack(t, longText(0).rows(nil))
	wantBack(t, onMiss(passes(32764)...).rows(nil))
	wantBack(t, required(sum(32765, 1)).rows(nil))
	wantBack(t, required(nested(&node{row: api.Row{Kind: api.NSize}}, 63, api.NNot)).rows(nil))
}

// spread writes a text's tokens with other blanks between, and brackets more around some of its numbers and names.
func (c chance) spread(text string) string {
	var other strings.Builder
	list := token.FindAllString(text, -1)
	for i, word := range list {
		other.WriteString(pick(c, []string{" ", "\n", "\t\t", "  \r\n", " # remark }\n"}))
		if '0' <= word[0] && word[0] <= '9' || slices.Contains([]string{"size", "total", "true", "false"}, word) {
			word = strings.Repeat("(", c.Intn(3)) + word
			word += strings.Repeat(")", strings.Count(word, "("))
		}
		other.WriteString(word)
		if i == len(list)-1 {
			other.WriteString(pick(c, []string{"", " ", "\n\n", "# end"}))
		}
	}
	return other.String()
}

func TestP404Texts(t *testing.T) {
	eachTree(4040, 1000, func(c chance, n *node) {
		text, _ := n.printed()
		rows, _, fault := gram.Parse([]byte(c.spread(text)))
		if fault != (api.Fault{}) {
			return
		}
		if again := wantBack(t, rows); again != text {
			t.Errorf("%q: %q", text, again)
		}
	})
}

// changed changes one thing of a row.
func (c chance) changed(rows []api.Row) []api.Row {
	rows = slices.Clone(rows)
	at := c.Intn(len(rows))
	switch c.Intn(6) {
	case 0:
		rows[at].Name = pick(c, names)
	case 1:
		rows[at].End ^= 1
	case 2:
		rows[at].N = pick(c, numbers)
	case 3:
		rows[at].Kind = c.Intn(api.NCount)
	case 4:
		rows[at].Kids += c.Intn(3) - 1
	case 5:
		other := c.Intn(len(rows))
		rows[at].Kids, rows[other].Kids = rows[other].Kids, rows[at].Kids
		rows[at].Kind, rows[other].Kind = rows[other].Kind, rows[at].Kind
	}
	return rows
}

func TestP404Unlike(t *testing.T) {
	unlike := 0
	eachTree(4041, 600, func(c chance, n *node) {
		rows := n.rows(nil)
		text, err := show.Print(rows)
		if err != api.OK {
			return
		}
		for range 60 {
			others := c.changed(rows)
			other, e := show.Print(others)
			if want := gram.Check(others); e != want.Err {
				t.Errorf("%v: %v; want %v", others, e, want)
			}
			if e == api.OK && (other == text) != slices.Equal(rows, others) {
				t.Errorf("%v and %v: %q", rows, others, text)
			}
			if e == api.OK && other != text {
				unlike++
				wantBack(t, others)
			}
		}
	})
	if unlike < 1000 {
		t.Errorf("%d other trees", unlike)
	}
}

// All trees of at most three signs over one name: no two have one text.
func TestP404EachSmallExpression(t *testing.T) {
	leaf := func() *node { return &node{row: api.Row{Kind: api.NVarOf, Name: "a"}} }
	kinds := []int{api.NOr, api.NAnd, api.NLt, api.NEq, api.NSub, api.NMul, api.NNeg, api.NMin}
	var signs func(many int) []*node
	signs = func(many int) []*node {
		if many == 0 {
			return []*node{leaf()}
		}
		var list []*node
		for _, kind := range kinds {
			if kind == api.NNeg {
				for _, kid := range signs(many - 1) {
					list = append(list, &node{row: api.Row{Kind: kind}, kids: []*node{kid}})
				}
				continue
			}
			for left := range many {
				for _, a := range signs(left) {
					for _, b := range signs(many - 1 - left) {
						list = append(list, &node{row: api.Row{Kind: kind}, kids: []*node{a, b}})
					}
				}
			}
		}
		return list
	}
	seen := map[string]bool{}
	for many := range 4 {
		for _, e := range signs(many) {
			n := required(e)
			wantPrinted(t, n)
			text := wantBack(t, n.rows(nil))
			if seen[text] {
				t.Errorf("twice: %q", text)
			}
			seen[text] = true
		}
	}
}

// wantClean tells whether a text is as P405 says.
func wantClean(t *testing.T, text string) {
	t.Helper()
	for _, b := range []byte(text) {
		if b != 9 && b != 10 && (b < 32 || b > 126) {
			t.Errorf("%q: byte %d", short(text), b)
		}
	}
	begin, end := 0, 0
	for line := range strings.SplitSeq(strings.TrimSuffix(text, "\n"), "\n") {
		if line == "" || !strings.Contains(";{}", line[len(line)-1:]) {
			t.Errorf("line %q", line)
		}
		if strings.HasPrefix(strings.TrimLeft(line, "\t"), "}") {
			begin++
		}
		if strings.HasSuffix(line, "{") {
			end++
		}
		if line != strings.TrimSpace(line) && !strings.HasPrefix(line, "\t") || strings.Contains(line, "  ") || strings.Contains(line, " ;") {
			t.Errorf("line %q", line)
		}
	}
	if begin != end || !strings.HasSuffix(text, "\n") {
		t.Errorf("%q: %d lines begin with }, %d end with {", short(text), begin, end)
	}
}

func TestP405(t *testing.T) {
	eachTree(405, 2000, func(c chance, n *node) {
		if text, err := show.Print(n.rows(nil)); err == api.OK {
			wantClean(t, text)
		}
	})
	for _, text := range published {
		again, _ := show.Print(parsed(t, text))
		wantClean(t, again)
	}
}

// Trees as deep as they can be are gone through in a moment; so are such as are too large.
func TestP401Deep(t *testing.T) {
	const tails = 13104
	from := "policy p { on miss { " + strings.Repeat("if a { } else ", tails) + "{ } } }"
	want := inMiss("if a {", strings.Repeat("} else if a {\n\t\t", tails-1)+"} else {", "}")
	wantText(t, from, want)

	rows := []api.Row{{Kind: api.NPolicy, Name: "p", Kids: 1}, {Kind: api.NRequire, Kids: 1}}
	for kind, many := range map[int]int{api.NSub: 200000, api.NOr: 300000} {
		signs := slices.Repeat([]api.Row{{Kind: kind, Kids: 2}}, many)
		leaves := slices.Repeat([]api.Row{{Kind: api.NNum}}, many+1)
		want := api.ErrMany
		if many == 300000 {
			want = api.ErrLong
		}
		wantRefused(t, slices.Concat(rows, signs, leaves), want)
	}
}

func collected(lines iter.Seq[string]) []string { return slices.Collect(lines) }

func TestP403AsMade(t *testing.T) {
	rows := parsed(t, published[3])
	want := strings.Split(strings.TrimSuffix(published[3], "\n"), "\n")
	lines := show.Lines(rows)
	clear(rows)
	for range 2 {
		if got := collected(lines); !slices.Equal(got, want) {
			t.Errorf("%q; want %q", got, want)
		}
	}
	for most := range len(want) {
		var some []string
		for line := range lines {
			if some = append(some, line); len(some) > most {
				break
			}
		}
		if !slices.Equal(some, want[:most+1]) {
			t.Errorf("left behind %d: %q", most+1, some)
		}
	}
	at := 0
	for line := range lines {
		if line != want[at] || !slices.Equal(collected(lines), want) {
			t.Errorf("line %d: %q", at, line)
		}
		at++
	}
}

// What was wrong when the sequence was made has no lines, whatever becomes of the rows.
func TestP403WrongWhenMade(t *testing.T) {
	rows := parsed(t, published[0])
	rows[0].Name = ""
	lines := show.Lines(rows)
	rows[0].Name = "fifo"
	if got := collected(lines); len(got) > 0 {
		t.Errorf("%q", got)
	}
	if got := collected(show.Lines(rows)); len(got) != 9 {
		t.Errorf("%q", got)
	}
}

// Rows that are handed in, and the room behind them, stay as they are.
func TestP2Rows(t *testing.T) {
	eachTree(2, 200, func(c chance, n *node) {
		rows := n.rows(nil)
		room := slices.Grow(slices.Clone(rows), 8)
		all := room[:len(room)+8]
		for i := range 8 {
			all[len(room)+i] = api.Row{Kind: 7, Name: "room", Kids: i}
		}
		was := slices.Clone(all)
		text, err := show.Print(room)
		for range show.Lines(room) {
		}
		if again, e := show.Print(room); again != text || e != err || !slices.Equal(all, was) {
			t.Errorf("%q, %v, then %q, %v; rows %v; were %v", text, err, again, e, all, was)
		}
	})
}

// Whatever rows are handed in, the answer is Check's error, or a text of them.
func TestP1AnyRows(t *testing.T) {
	c := chance{rand.New(rand.NewSource(1))}
	odd := []int{math.MinInt, -1, 0, 1, 2, 3, 1 << 40, math.MaxInt}
	for range 20000 {
		rows := make([]api.Row, c.Intn(6))
		for i := range rows {
			rows[i] = api.Row{Kind: c.Intn(api.NCount+3) - 1, Name: pick(c, []string{"", "p", "x", "\n", "é"}), Kids: c.Intn(4)}
			switch c.Intn(5) {
			case 0:
				rows[i].Kind = pick(c, odd)
			case 1:
				rows[i].End = pick(c, odd)
			case 2:
				rows[i].N = pick(c, odd)
			case 3:
				rows[i].Kids = pick(c, odd)
			}
		}
		if want := gram.Check(rows).Err; want != api.OK {
			wantRefused(t, rows, want)
		} else {
			wantBack(t, rows)
		}
	}
}
