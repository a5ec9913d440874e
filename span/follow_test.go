package span_test

import (
	"strings"
	"testing"
	"unicode/utf8"

	"winnow/api"
	"winnow/span"
)

// bytesOfAll is what short texts are made of: plain bytes, blanks, ends of lines, and bytes of runes that meet and that don't.
const bytesOfAll = "a\t\n\r\xc3\xa9\xe2\x82\xac\xff"

// known are texts with runes whole and broken that are longer than the short ones.
var known = []string{
	sample,
	"\xc3\n",
	"\n\n\n",
	"\xef\xbf\xbd\xef\xbf\n\xbd",
	"\xf0\x9f\x98\x80\n\xf0\x9f\x98\n\x80\xf0",
	"\xed\xa0\x80\xc0\x80\n\t\xf4\x90\x80\x80",
	"policy p {\n\tqueue q resident;\n\ton miss { insert q front; }\n}\n",
}

// eachText goes over the known texts and over all of at most four of the bytes.
func eachText(do func(s string)) {
	for _, s := range known {
		do(s)
	}
	var grow func(s string)
	grow = func(s string) {
		do(s)
		for i := 0; i < len(bytesOfAll) && len(s) < 4; i++ {
			grow(s + bytesOfAll[i:i+1])
		}
	}
	grow("")
}

// stop is a place at which a column begins, and its mark's line beneath.
type stop struct {
	at, line, col int
	mark          string
}

// stopsOf tells a text's stops by the chapter's words, piece by piece from the left.
func stopsOf(s string) []stop {
	now := stop{line: 1, col: 1}
	stops := []stop{now}
	for rest := s; rest != ""; rest = s[now.at:] {
		_, size := utf8.DecodeRuneInString(rest)
		now.at += size
		now.col++
		switch rest[0] {
		case '\n':
			now.line, now.col, now.mark = now.line+1, 1, ""
		case '\t':
			now.mark += "\t"
		default:
			now.mark += " "
		}
		stops = append(stops, now)
	}
	return stops
}

// stopAt tells the last stop that is not behind a place.
func stopAt(stops []stop, at int) stop {
	found := stops[0]
	for _, s := range stops {
		if s.at <= at {
			found = s
		}
	}
	return found
}

func TestP102ToP104OfAllShortTexts(t *testing.T) {
	eachText(func(s string) {
		x, stops := text(s), stopsOf(s)
		for at := range len(s) + 1 {
			want := stopAt(stops, at)
			wantSpot(t, s, at, want.line, want.col)
			wantMark(t, s, at, strings.Split(s, "\n")[want.line-1]+"\n"+want.mark+"^")
		}
		for _, p := range stops {
			wantPlace(t, s, p.line, p.col, p.at)
			if strings.HasPrefix(s[p.at:], "\n") || p.at == len(s) {
				if at, e := x.Place(p.line, p.col+1); at != 0 || e != api.ErrArg {
					t.Errorf("%q: Place(%d, %d): %d, %v; want ErrArg", s, p.line, p.col+1, at, e)
				}
			}
		}
	})
}

func TestP107ThereAndBack(t *testing.T) {
	eachText(func(s string) {
		x, stops := text(s), stopsOf(s)
		wasLine, wasCol := 1, 1
		for at := range len(s) + 1 {
			line, col, _ := x.Spot(at)
			if back, e := x.Place(line, col); back != stopAt(stops, at).at || e != api.OK {
				t.Errorf("%q: Place of Spot(%d): %d, %v; want %d", s, at, back, e, stopAt(stops, at).at)
			}
			if line < wasLine || line == wasLine && col < wasCol {
				t.Errorf("%q: Spot(%d): %d, %d falls", s, at, line, col)
			}
			wasLine, wasCol = line, col
		}
		for line := 1; line <= x.Lines(); line++ {
			spotsOfLine(t, s, x, line)
		}
	})
}

// spotsOfLine asks Spot of each Place of a line. No line has more columns than the text has places.
func spotsOfLine(t *testing.T, s string, x *span.Text, line int) {
	t.Helper()
	for col := 1; col <= len(s)+2; col++ {
		at, e := x.Place(line, col)
		if e != api.OK {
			if col == 1 {
				t.Errorf("%q: Place(%d, 1): %v", s, line, e)
			}
			return
		}
		if l, c, e := x.Spot(at); l != line || c != col || e != api.OK {
			t.Errorf("%q: Spot of Place(%d, %d): %d, %d, %v", s, line, col, l, c, e)
		}
	}
}

func TestP108LinesAreTheText(t *testing.T) {
	eachText(func(s string) {
		x := text(s)
		var lines []string
		for n := 1; n <= x.Lines(); n++ {
			line, e := x.Line(n)
			if e != api.OK {
				t.Errorf("%q: Line(%d): %v", s, n, e)
			}
			lines = append(lines, line)
			placesOfLine(t, s, x, n, len(line))
		}
		if strings.Join(lines, "\n") != s {
			t.Errorf("%q: its lines are %q", s, lines)
		}
	})
}

// placesOfLine asks that just the places from Place(n, 1) on, as many as bytes and one more, are line n's.
func placesOfLine(t *testing.T, s string, x *span.Text, n, size int) {
	t.Helper()
	first, e := x.Place(n, 1)
	if e != api.OK {
		t.Errorf("%q: Place(%d, 1): %v", s, n, e)
	}
	for at := range len(s) + 1 {
		line, _, _ := x.Spot(at)
		if within := at >= first && at <= first+size; within != (line == n) {
			t.Errorf("%q: Spot(%d) tells line %d; line %d has %d to %d", s, at, line, n, first, first+size)
		}
	}
}

func TestP3SameAgain(t *testing.T) {
	x := text(sample)
	for at := -1; at <= len(sample)+1; at++ {
		l, c, e := x.Spot(at)
		m, f := x.Mark(at)
		if l2, c2, e2 := x.Spot(at); l2 != l || c2 != c || e2 != e {
			t.Errorf("Spot(%d) changes", at)
		}
		if m2, f2 := x.Mark(at); m2 != m || f2 != f {
			t.Errorf("Mark(%d) changes", at)
		}
	}
	if x.Lines() != 3 {
		t.Errorf("%d lines", x.Lines())
	}
}
