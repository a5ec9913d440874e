package span_test

import (
	"math"
	"slices"
	"strings"
	"testing"

	"winnow/api"
	"winnow/span"
)

// sample is the chapter's first example: three lines, a tab, a rune of two bytes, a byte 10 at the end.
const sample = "a\n\tb\xc3\xa9\n"

func text(s string) *span.Text { return span.New([]byte(s)) }

func wantSpot(t *testing.T, s string, at, line, col int) {
	t.Helper()
	if l, c, e := text(s).Spot(at); l != line || c != col || e != api.OK {
		t.Errorf("%q: Spot(%d): %d, %d, %v; want %d, %d", s, at, l, c, e, line, col)
	}
}

func wantPlace(t *testing.T, s string, line, col, at int) {
	t.Helper()
	if p, e := text(s).Place(line, col); p != at || e != api.OK {
		t.Errorf("%q: Place(%d, %d): %d, %v; want %d", s, line, col, p, e, at)
	}
}

func wantMark(t *testing.T, s string, at int, mark string) {
	t.Helper()
	if m, e := text(s).Mark(at); m != mark || e != api.OK {
		t.Errorf("%q: Mark(%d): %q, %v; want %q", s, at, m, e, mark)
	}
}

func TestP101Lines(t *testing.T) {
	for _, c := range []struct {
		text  string
		lines []string
	}{
		{"", []string{""}},
		{"a", []string{"a"}},
		{"\n", []string{"", ""}},
		{"\n\n", []string{"", "", ""}},
		{"a\n", []string{"a", ""}},
		{"\na", []string{"", "a"}},
		{sample, []string{"a", "\tb\xc3\xa9", ""}},
		{"policy p {\n}\n# end", []string{"policy p {", "}", "# end"}},
		{"a\r\nb\rc", []string{"a\r", "b\rc"}},
		{"a\vb\fc\u0085d\u2028e\u2029f\x00", []string{"a\vb\fc\u0085d\u2028e\u2029f\x00"}},
		{"\xc3\n\xff\xfe\n\xe2\x82", []string{"\xc3", "\xff\xfe", "\xe2\x82"}},
	} {
		x := text(c.text)
		if x.Lines() != len(c.lines) {
			t.Errorf("%q: Lines: %d; want %d", c.text, x.Lines(), len(c.lines))
		}
		for i, want := range c.lines {
			if s, e := x.Line(i + 1); s != want || e != api.OK {
				t.Errorf("%q: Line(%d): %q, %v; want %q", c.text, i+1, s, e, want)
			}
		}
	}
}

func TestP101NoSuchLine(t *testing.T) {
	for _, s := range []string{"", "a", "\n", sample} {
		x := text(s)
		for _, n := range []int{0, -1, x.Lines() + 1, math.MinInt, math.MaxInt} {
			if l, e := x.Line(n); l != "" || e != api.ErrArg {
				t.Errorf("%q: Line(%d): %q, %v; want ErrArg", s, n, l, e)
			}
		}
	}
}

func TestP102Spot(t *testing.T) {
	for at, want := range [][2]int{{1, 1}, {1, 2}, {2, 1}, {2, 2}, {2, 3}, {2, 3}, {2, 4}, {3, 1}} {
		wantSpot(t, sample, at, want[0], want[1])
	}
	wantSpot(t, "", 0, 1, 1)
	wantSpot(t, "\n", 0, 1, 1)
	wantSpot(t, "\n", 1, 2, 1)
	wantSpot(t, "ab", 2, 1, 3)
}

func TestP102SpotWithinPieces(t *testing.T) {
	for _, c := range []struct {
		text string
		cols []int
	}{
		{"\xc3\xa9b", []int{1, 1, 2, 3}},
		{"\xe2\x82\xacb", []int{1, 1, 1, 2, 3}},
		{"\xf0\x9f\x98\x80b", []int{1, 1, 1, 1, 2, 3}},
		{"\xef\xbf\xbdb", []int{1, 1, 1, 2, 3}},           // the rune 65533, written
		{"\xffb", []int{1, 2, 3}},                         // no rune begins so
		{"\xa9b", []int{1, 2, 3}},                         // a rune's middle alone
		{"\xe2\x82b", []int{1, 2, 3, 4}},                  // a rune cut short
		{"\xe2\x82", []int{1, 2, 3}},                      // by the text's end
		{"\xc0\x80b", []int{1, 2, 3, 4}},                  // too long a form
		{"\xed\xa0\x80b", []int{1, 2, 3, 4, 5}},           // a surrogate
		{"\xf4\x90\x80\x80b", []int{1, 2, 3, 4, 5, 6}},    // above the last rune
		{"e\xcc\x81b", []int{1, 2, 2, 3, 4}},              // a sign that is put on the one ahead has its own column
		{"\x00\t\rb", []int{1, 2, 3, 4, 5}},               // one each, however they look
		{"\xc3\xc3\xa9\xa9", []int{1, 2, 2, 3, 4}},        // a rune between two that are none
		{"\xef\xbb\xbfb", []int{1, 1, 1, 2, 3}},           // a mark of byte order is a rune like others
		{"\xf0\x9f\x98\xc3\xa9", []int{1, 2, 3, 4, 4, 5}}, // cut short by another rune
	} {
		for at, col := range c.cols {
			wantSpot(t, c.text, at, 1, col)
		}
	}
	wantSpot(t, "\xc3\n", 0, 1, 1)
	wantSpot(t, "\xc3\n", 1, 1, 2)
	wantSpot(t, "\xc3\n\xa9", 2, 2, 1)
}

func TestP102NoSuchPlace(t *testing.T) {
	for _, s := range []string{"", "a", "\n", sample} {
		for _, at := range []int{-1, len(s) + 1, math.MinInt, math.MaxInt} {
			if l, c, e := text(s).Spot(at); l != 0 || c != 0 || e != api.ErrArg {
				t.Errorf("%q: Spot(%d): %d, %d, %v; want ErrArg", s, at, l, c, e)
			}
		}
	}
}

func TestP103Place(t *testing.T) {
	for _, c := range []struct{ line, col, at int }{{1, 1, 0}, {1, 2, 1}, {2, 1, 2}, {2, 2, 3}, {2, 3, 4}, {2, 4, 6}, {3, 1, 7}} {
		wantPlace(t, sample, c.line, c.col, c.at)
	}
	wantPlace(t, "", 1, 1, 0)
	wantPlace(t, "\n", 1, 1, 0)
	wantPlace(t, "\n", 2, 1, 1)
	wantPlace(t, "\xe2\x82z", 1, 2, 1)
	wantPlace(t, "\xe2\x82z", 1, 4, 3)
	wantPlace(t, "\xef\xbf\xbdz", 1, 2, 3)
	wantPlace(t, "\xf0\x9f\x98\x80\n\xe2\x82\xac\xff", 2, 2, 8)
	wantPlace(t, "\xf0\x9f\x98\x80\n\xe2\x82\xac\xff", 2, 3, 9)
}

func TestP103NoSuchSpot(t *testing.T) {
	for _, c := range [][2]int{{2, 5}, {0, 1}, {4, 1}, {1, 0}, {1, 3}, {3, 2}, {3, 0}, {-1, 1}, {1, -1}, {0, 0}, {math.MinInt, 1}, {math.MaxInt, 1}, {1, math.MinInt}, {2, math.MaxInt}} {
		if at, e := text(sample).Place(c[0], c[1]); at != 0 || e != api.ErrArg {
			t.Errorf("Place(%d, %d): %d, %v; want ErrArg", c[0], c[1], at, e)
		}
	}
	for _, c := range [][2]int{{1, 0}, {1, 2}, {2, 1}} {
		if at, e := text("").Place(c[0], c[1]); at != 0 || e != api.ErrArg {
			t.Errorf("no bytes: Place(%d, %d): %d, %v; want ErrArg", c[0], c[1], at, e)
		}
	}
}

func TestP104Mark(t *testing.T) {
	for at, want := range []string{"a\n^", "a\n ^", "\tb\xc3\xa9\n^", "\tb\xc3\xa9\n\t^", "\tb\xc3\xa9\n\t ^", "\tb\xc3\xa9\n\t ^", "\tb\xc3\xa9\n\t  ^", "\n^"} {
		wantMark(t, sample, at, want)
	}
	wantMark(t, "", 0, "\n^")
	wantMark(t, "\t\ta\tb", 4, "\t\ta\tb\n\t\t \t^")
	wantMark(t, "\t", 0, "\t\n^")
	wantMark(t, "\t", 1, "\t\n\t^")
	wantMark(t, "a\r\nb", 2, "a\r\n  ^")
	wantMark(t, "\xff\xe2\x82\xac\xe2\x82", 6, "\xff\xe2\x82\xac\xe2\x82\n    ^")
}

func TestP104NoSuchPlace(t *testing.T) {
	for _, s := range []string{"", "a", sample} {
		for _, at := range []int{-1, len(s) + 1, math.MinInt, math.MaxInt} {
			if m, e := text(s).Mark(at); m != "" || e != api.ErrArg {
				t.Errorf("%q: Mark(%d): %q, %v; want ErrArg", s, at, m, e)
			}
		}
	}
}

func TestP2NotChangedNotKept(t *testing.T) {
	whole := []byte("ab\ncd spare\n")
	before := slices.Clone(whole)
	x := span.New(whole[:5])
	if !slices.Equal(whole, before) {
		t.Errorf("New changed what was handed in: %q", whole)
	}
	copy(whole, "\n\n\n\n\n\n\n\n\n\n\n\n")
	if s, e := x.Line(2); s != "cd" || e != api.OK || x.Lines() != 2 {
		t.Errorf("New kept what was handed in: %q, %v, %d lines", s, e, x.Lines())
	}
	if m, e := x.Mark(4); m != "cd\n ^" || e != api.OK {
		t.Errorf("New kept what was handed in: %q, %v", m, e)
	}
}

func TestP2NoListIsAnEmptyOne(t *testing.T) {
	for _, x := range []*span.Text{span.New(nil), span.New([]byte{}), {}} {
		if s, e := x.Line(1); x.Lines() != 1 || s != "" || e != api.OK {
			t.Errorf("no bytes: %d lines, %q, %v", x.Lines(), s, e)
		}
		if l, c, e := x.Spot(0); l != 1 || c != 1 || e != api.OK {
			t.Errorf("no bytes: Spot(0): %d, %d, %v", l, c, e)
		}
	}
}

func TestP7TextsApart(t *testing.T) {
	x, y := text("a"), text("b\nb")
	if s, _ := x.Line(1); s != "a" || x.Lines() != 1 || y.Lines() != 2 {
		t.Errorf("a text was changed by another: %q", s)
	}
}

func TestLongTexts(t *testing.T) {
	const n = api.MaxSource + 1
	wantSpot(t, strings.Repeat("a", n), n, 1, n+1)
	wantPlace(t, strings.Repeat("\xc3\xa9", n), 1, n, 2*n-2)
	wantMark(t, strings.Repeat("\t", n), n, strings.Repeat("\t", n)+"\n"+strings.Repeat("\t", n)+"^")
	breaks := text(strings.Repeat("\n", n))
	if breaks.Lines() != n+1 {
		t.Errorf("%d lines", breaks.Lines())
	}
	for at := range n + 1 {
		if l, c, e := breaks.Spot(at); l != at+1 || c != 1 || e != api.OK {
			t.Fatalf("Spot(%d): %d, %d, %v", at, l, c, e)
		}
	}
}
