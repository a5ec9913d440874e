package lab_test

import (
	"fmt"
	"math/rand"
	"regexp"
	"slices"
	"strings"
	"testing"

	"winnow/api"
	"winnow/lab"
)

const (
	plainPart = `"(?:[^"\\]|\\[\\"nt]|\\x[0-9a-f][0-9a-f])*"|[^ \t"#][^ \t"]*`
	plainLine = `(?s)^[ \t]*(?:(?:` + plainPart + `)(?:[ \t]+(?:` + plainPart + `))*)?(?:[ \t]*|(?:^|[ \t]+)#.*)$`
)

var (
	onePart = regexp.MustCompile(`(?s)^[ \t]*(` + plainPart + `)`)
	allLine = regexp.MustCompile(plainLine)
)

// plainWords reads a line by the words of P2104, and tells whether it may be.
func plainWords(line string) ([]string, bool) {
	if !allLine.MatchString(line) {
		return nil, false
	}
	var list []string
	for {
		m := onePart.FindStringSubmatchIndex(line)
		if m == nil {
			return list, true
		}
		list = append(list, plainMeaning(line[m[2]:m[3]]))
		line = line[m[1]:]
	}
}

var byteSign = regexp.MustCompile(`(?s)^(?:\\x(..)|\\(.)|(.))`)

func plainMeaning(word string) string {
	if !strings.HasPrefix(word, `"`) {
		return word
	}
	var bytes []byte
	for inner := word[1 : len(word)-1]; inner != ""; {
		switch {
		case strings.HasPrefix(inner, `\x`):
			var b byte
			fmt.Sscanf(inner[2:4], "%x", &b)
			bytes, inner = append(bytes, b), inner[4:]
		case inner[0] == '\\':
			bytes, inner = append(bytes, strings.NewReplacer("n", "\n", "t", "\t").Replace(inner[1:2])...), inner[2:]
		default:
			bytes, inner = append(bytes, inner[0]), inner[1:]
		}
	}
	return string(bytes)
}

func wantWords(t *testing.T, line string, want ...string) {
	t.Helper()
	if got, err := lab.Words(line); err != api.OK || !slices.Equal(got, want) {
		t.Errorf("%q: %q, %v; want %q", line, got, err, want)
	}
}

func wantNoWords(t *testing.T, line string) {
	t.Helper()
	if got, err := lab.Words(line); err != api.ErrWord || got != nil {
		t.Errorf("%q: %q, %v", line, got, err)
	}
}

func TestP2104Words(t *testing.T) {
	wantWords(t, "")
	wantWords(t, " ")
	wantWords(t, "\t \t")
	wantWords(t, "a", "a")
	wantWords(t, "  a\tb  \t c ", "a", "b", "c")
	wantWords(t, `"a b" c`, "a b", "c")
	wantWords(t, `""`, "")
	wantWords(t, `"" "" x`, "", "", "x")
	wantWords(t, `"\""`, `"`)
	wantWords(t, `"\\"`, `\`)
	wantWords(t, `"\\\""`, `\"`)
	wantWords(t, `"\n\t"`, "\n\t")
	wantWords(t, `"\x00\x0f\x10\x1a\x7f\xa0\xff"`, "\x00\x0f\x10\x1a\x7f\xa0\xff")
	wantWords(t, `"\x22\x5c\x41g"`, `"\Ag`)
	wantWords(t, "\"a\nb\tc\x00\xff\"", "a\nb\tc\x00\xff")
}

// What stands behind a backslash outside of a quoted word is as it is.
func TestP2104Plain(t *testing.T) {
	wantWords(t, `a\nb \ \x41`, `a\nb`, `\`, `\x41`)
	wantWords(t, "a\nb\r", "a\nb\r")
	wantWords(t, "\x00 \xff\xfe é", "\x00", "\xff\xfe", "é")
	wantNoWords(t, `\"`)
	wantNoWords(t, `a"`)
	wantNoWords(t, `a"b"`)
	wantNoWords(t, `a b"c" d`)
	wantNoWords(t, `a""`)
}

func TestP2104Hash(t *testing.T) {
	wantWords(t, "#")
	wantWords(t, " \t# a")
	wantWords(t, "a #", "a")
	wantWords(t, "a # b \"", "a")
	wantWords(t, "a #\"", "a")
	wantWords(t, "a\t#b c", "a")
	wantWords(t, "a#b", "a#b")
	wantWords(t, "a# b", "a#", "b")
	wantWords(t, "a##", "a##")
	wantWords(t, `"#" #`, "#")
	wantWords(t, `"a #" b`, "a #", "b")
	wantNoWords(t, `"a"#b`)
	wantNoWords(t, `"a"#`)
	wantNoWords(t, `a"b # c`)
	wantNoWords(t, `"a # b`)
}

func TestP2104Refused(t *testing.T) {
	for _, line := range []string{
		`"`, `"a`, `a "`, `"a\`, `"a\"`, `"\\\"`, `"a"b`, `"a""b"`, `""""`, `"a"\`, `"a"` + "\n", `"a"` + "\r",
		`"\q"`, `"\N"`, `"\r"`, `"\0"`, `"\ "`, `"\#"`, `"\X41"`, `"\'"`, "\"\\\n\"",
		`"\x"`, `"\x4"`, `"\x4g"`, `"\xg4"`, `"\x0F"`, `"\xF0"`, `"\x 4"`, `"\x`, `"\x4`, `"\x41`, `"\x4"4"`, `"\x:0"`, `"\x/0"`, "\"\\x`0\"", `"\x@0"`,
		`a b c "d`, `"a" "b`, `"a" "b"c`,
	} {
		wantNoWords(t, line)
		wantNoWords(t, "a  "+line)
		wantNoWords(t, line+"  # a")
	}
}

// eachText goes over all texts of at most so many of some bytes.
func eachText(bytes string, most int, do func(string)) {
	do("")
	for texts := []string{""}; most > 0; most-- {
		var longer []string
		for _, text := range texts {
			for _, b := range []byte(bytes) {
				longer = append(longer, text+string(b))
				do(text + string(b))
			}
		}
		texts = longer
	}
}

func wantPlainWords(t *testing.T, line string) {
	t.Helper()
	if want, right := plainWords(line); right {
		wantWords(t, line, want...)
	} else {
		wantNoWords(t, line)
	}
}

func TestP2104Small(t *testing.T) {
	eachText(" \t\"\\nx4#a", 5, func(line string) { wantPlainWords(t, line) })
	eachText("\"\\x0af#", 5, func(line string) { wantPlainWords(t, `"`+line) })
	eachText("\\x0\"F", 5, func(line string) { wantPlainWords(t, `a "`+line+`"`) })
}

func TestP2104Chance(t *testing.T) {
	r := rand.New(rand.NewSource(2104))
	parts := []string{" ", " ", "\t", `"`, `"`, `"`, `\\`, `\"`, `\n`, `\t`, `\x1f`, `\xe9`, `\`, `\x`, "#", "a", "bc", "0", "\n", "\xff", "é"}
	met := 0
	for range 60000 {
		line := ""
		for range r.Intn(12) {
			line += parts[r.Intn(len(parts))]
		}
		wantPlainWords(t, line)
		if list, right := plainWords(line); right && len(list) > 1 {
			met++
		}
	}
	if met < 2000 {
		t.Errorf("only %d lines of more words", met)
	}
}

func TestP2104Quote(t *testing.T) {
	for _, x := range [][2]string{
		{"", `""`}, {"a", `"a"`}, {"a b#", `"a b#"`}, {`\`, `"\\"`}, {`"`, `"\""`}, {"\n", `"\n"`}, {"\t", `"\t"`}, {"n", `"n"`},
		{"\x00\x08\x0b\r\x1f", `"\x00\x08\x0b\x0d\x1f"`}, {" !~", `" !~"`}, {"\x7f\x80\xa9\xff", `"\x7f\x80\xa9\xff"`}, {"é", `"\xc3\xa9"`}, {"'", `"'"`},
	} {
		if got := lab.Quote([]byte(x[0])); got != x[1] {
			t.Errorf("%q: %s; want %s", x[0], got, x[1])
		}
	}
	if got := lab.Quote(nil); got != `""` {
		t.Errorf("nil: %s", got)
	}
	for b := range 256 {
		want := string([]byte{'"', byte(b), '"'})
		switch {
		case b == '\n':
			want = `"\n"`
		case b == '\t':
			want = `"\t"`
		case b == '"' || b == '\\':
			want = `"\` + string(byte(b)) + `"`
		case b < 32 || b > 126:
			want = fmt.Sprintf(`"\x%02x"`, b)
		}
		if got := lab.Quote([]byte{byte(b)}); got != want {
			t.Errorf("%d: %s; want %s", b, got, want)
		}
	}
}

// A quoted word is read as the bytes that were quoted.
func TestP2104Back(t *testing.T) {
	r := rand.New(rand.NewSource(2105))
	for range 3000 {
		b := make([]byte, r.Intn(30))
		for i := range b {
			b[i] = byte(r.Intn([]int{256, 40, 3}[r.Intn(3)]))
		}
		word := lab.Quote(b)
		wantWords(t, word, string(b))
		wantWords(t, "a "+word+"\t"+word+" # "+word, "a", string(b), string(b))
		for _, c := range []byte(word) {
			if c < 32 || c > 126 {
				t.Fatalf("%q: %q", b, word)
			}
		}
	}
}

func TestP2104Large(t *testing.T) {
	const n = 1 << 20
	wantWords(t, `"`+strings.Repeat(`\x41`, n)+`"`, strings.Repeat("A", n))
	wantNoWords(t, `"`+strings.Repeat(`\"`, n))
	if got, err := lab.Words(strings.Repeat("a ", n)); err != api.OK || len(got) != n || got[0] != "a" || got[n-1] != "a" {
		t.Errorf("%d, %v", len(got), err)
	}
	if got := lab.Quote([]byte(strings.Repeat("\xff", n))); got != `"`+strings.Repeat(`\xff`, n)+`"` {
		t.Errorf("%d bytes", len(got))
	}
}
