package lex_test

import (
	"bytes"
	"slices"
	"strings"
	"testing"

	"winnow/api"
	"winnow/lex"
)

// keptWords and signs are the chapter's lists, word for word.
const (
	keptWords = "policy queue resident ghost var in tag require rule on hit miss if else loop while set mark insert move forget shift evict to drop call pass front back x true false len cap size total empty full at min max"
	signs     = "{ } ( ) ; , .. = == != < <= > >= + - * / && || !"
)

func word(at, end int) api.Token      { return api.Token{Kind: api.TokWord, At: at, End: end} }
func name(at, end int) api.Token      { return api.Token{Kind: api.TokName, At: at, End: end} }
func sign(at, end int) api.Token      { return api.Token{Kind: api.TokSign, At: at, End: end} }
func number(at, end, n int) api.Token { return api.Token{Kind: api.TokNumber, At: at, End: end, N: n} }
func end(at int) api.Token            { return api.Token{Kind: api.TokEnd, At: at, End: at} }

func wantTokens(t *testing.T, s string, want ...api.Token) {
	t.Helper()
	if list, f := lex.Scan([]byte(s)); f != (api.Fault{}) || !slices.Equal(list, want) {
		t.Errorf("Scan(%.80q): %v, %v; want %v", s, list, f, want)
	}
}

func wantFault(t *testing.T, s string, err api.Errno, at int) {
	t.Helper()
	if list, f := lex.Scan([]byte(s)); f != (api.Fault{Err: err, At: at}) || len(list) != 0 {
		t.Errorf("Scan(%.80q): %d tokens, %v; want %v at %d", s, len(list), f, err, at)
	}
}

func TestP201Examples(t *testing.T) {
	wantTokens(t, "set p=p+1; # up", word(0, 3), name(4, 5), sign(5, 6), name(6, 7), sign(7, 8), number(8, 9, 1), sign(9, 10), end(15))
	wantTokens(t, "", end(0))
	wantTokens(t, "#", end(1))
	wantTokens(t, "a<==b", name(0, 1), sign(1, 3), sign(3, 4), name(4, 5), end(5))
	wantFault(t, "a...b", api.ErrByte, 3)
	wantTokens(t, "1073741824", number(0, 10, 1073741824), end(10))
	wantFault(t, "1073741825", api.ErrNumber, 0)
	wantTokens(t, "00000000000000000001", number(0, 20, 1), end(20))
	wantFault(t, "a & b", api.ErrByte, 2)
	wantTokens(t, "x1 x", name(0, 2), word(3, 4), end(4))
	wantFault(t, strings.Repeat("a", 65), api.ErrName, 0)
	wantTokens(t, "1x", number(0, 1, 1), word(1, 2), end(2))
	wantTokens(t, "0..9", number(0, 1, 0), sign(1, 3), number(3, 4, 9), end(4))
}

func TestP201NoList(t *testing.T) {
	if list, f := lex.Scan(nil); f != (api.Fault{}) || !slices.Equal(list, []api.Token{end(0)}) {
		t.Errorf("Scan(nil): %v, %v", list, f)
	}
}

func TestP201Blanks(t *testing.T) {
	wantTokens(t, "\t\n\r ", end(4))
	wantTokens(t, "a\tb\nc\rd e", name(0, 1), name(2, 3), name(4, 5), name(6, 7), name(8, 9), end(9))
	wantTokens(t, "#a\n\t!&&\r\n", sign(4, 5), sign(5, 7), end(9))
	wantTokens(t, "a#b\rc#d\n1", name(0, 1), number(8, 9, 1), end(9))
	wantTokens(t, "a#\n#\n1", name(0, 1), number(5, 6, 1), end(6))
	wantTokens(t, "#@\xff\x00 .&|"+strings.Repeat("9", 99), end(107))
	wantTokens(t, strings.Repeat(" ", api.MaxSource), end(api.MaxSource))
	wantTokens(t, "#"+strings.Repeat("a", api.MaxSource-2)+"\n", end(api.MaxSource))
}

// Each byte alone and behind a word: which begin a token, and of what kind, and which go on with it.
func TestP201EachByte(t *testing.T) {
	letters := "abcdefghijklmnopqrstuvwxyzABCDEFGHIJKLMNOPQRSTUVWXYZ_"
	for i := range 256 {
		b := string([]byte{byte(i)})
		switch {
		case b == "x":
			wantTokens(t, b, word(0, 1), end(1))
			wantTokens(t, "q"+b, name(0, 2), end(2))
		case strings.Contains(letters, b):
			wantTokens(t, b, name(0, 1), end(1))
			wantTokens(t, "q"+b, name(0, 2), end(2))
		case strings.Contains("0123456789", b):
			wantTokens(t, b, number(0, 1, i-'0'), end(1))
			wantTokens(t, "q"+b, name(0, 2), end(2))
		case strings.Contains("\t\n\r #", b):
			wantTokens(t, b, end(1))
			wantTokens(t, "q"+b, name(0, 1), end(2))
		case slices.Contains(strings.Fields(signs), b):
			wantTokens(t, b, sign(0, 1), end(1))
			wantTokens(t, "q"+b, name(0, 1), sign(1, 2), end(2))
		default:
			wantFault(t, b, api.ErrByte, 0)
			wantFault(t, "q"+b, api.ErrByte, 1)
		}
	}
}

func TestP201Signs(t *testing.T) {
	all := strings.Fields(signs)
	for _, s := range all {
		wantTokens(t, s, sign(0, len(s)), end(len(s)))
		wantTokens(t, "a"+s+"1", name(0, 1), sign(1, 1+len(s)), number(1+len(s), 2+len(s), 1), end(2+len(s)))
	}
	// Of each two bytes: a sign, two of them, or a byte alone that is none.
	for i := range 256 {
		for j := range 256 {
			a, b := string([]byte{byte(i)}), string([]byte{byte(j)})
			switch hasA, hasB := slices.Contains(all, a), slices.Contains(all, b); {
			case slices.Contains(all, a+b):
				wantTokens(t, a+b, sign(0, 2), end(2))
			case hasA && hasB:
				wantTokens(t, a+b, sign(0, 1), sign(1, 2), end(2))
			case strings.Contains(".&|", a):
				wantFault(t, a+b, api.ErrByte, 0)
			}
		}
	}
	wantTokens(t, "====", sign(0, 2), sign(2, 4), end(4))
	wantTokens(t, "===", sign(0, 2), sign(2, 3), end(3))
	wantTokens(t, "!==", sign(0, 2), sign(2, 3), end(3))
	wantTokens(t, "=!=", sign(0, 1), sign(1, 3), end(3))
	wantTokens(t, "<>", sign(0, 1), sign(1, 2), end(2))
	wantTokens(t, "= =", sign(0, 1), sign(2, 3), end(3))
	wantFault(t, "&&&", api.ErrByte, 2)
	wantFault(t, ". .", api.ErrByte, 0)
	wantFault(t, "a|", api.ErrByte, 1)
}

func TestP201Words(t *testing.T) {
	for _, s := range strings.Fields(keptWords) {
		n := len(s)
		wantTokens(t, s, word(0, n), end(n))
		wantTokens(t, "0"+s+";", number(0, 1, 0), word(1, 1+n), sign(1+n, 2+n), end(2+n))
		for _, near := range []string{s + "_", s + "0", s + "Z", "_" + s, strings.ToUpper(s), strings.ToUpper(s[:1]) + s[1:]} {
			wantTokens(t, near, name(0, len(near)), end(len(near)))
		}
	}
	wantTokens(t, "ghostqueue _ __9 Aa0_zZ", name(0, 10), name(11, 12), name(13, 16), name(17, 23), end(23))
}

func TestP201Names(t *testing.T) {
	for _, long := range []string{strings.Repeat("a", 65), "_" + strings.Repeat("9", 64), strings.Repeat("queue", 13)} {
		wantTokens(t, long[:64]+";", name(0, 64), sign(64, 65), end(65))
		wantTokens(t, long[:63], name(0, 63), end(63))
		wantFault(t, long, api.ErrName, 0)
		wantFault(t, "; "+long+"@", api.ErrName, 2)
		wantFault(t, long[:64]+"|", api.ErrByte, 64)
	}
	wantFault(t, "a "+strings.Repeat("b", api.MaxSource-2), api.ErrName, 2)
}

func TestP201Numbers(t *testing.T) {
	zeros := strings.Repeat("0", 1000)
	for _, c := range []struct {
		digits string
		n      int
	}{
		{"0", 0}, {"00", 0}, {"7", 7}, {"10", 10}, {"0123456789", 123456789},
		{"1073741823", 1<<30 - 1}, {"1073741824", 1 << 30}, {zeros, 0}, {zeros + "1073741824", 1 << 30},
	} {
		n := len(c.digits)
		wantTokens(t, c.digits, number(0, n, c.n), end(n))
		wantTokens(t, "-"+c.digits+"a", sign(0, 1), number(1, 1+n, c.n), name(1+n, 2+n), end(2+n))
	}
	// Among them those that wrap round to a small one in 32 or in 64 bits.
	for _, digits := range []string{
		"1073741825", "1073741830", "1073741834", "2147483648", "4294967296", "4294967297", "10000000000", "10737418240",
		"9223372036854775808", "18446744073709551616", "18446744073709551617", "184467440737095516160",
		strings.Repeat("9", 99), zeros + "1073741825", "1" + zeros,
	} {
		wantFault(t, digits, api.ErrNumber, 0)
		wantFault(t, "x "+digits+"@", api.ErrNumber, 2)
	}
	wantFault(t, strings.Repeat("9", api.MaxSource), api.ErrNumber, 0)
	wantTokens(t, strings.Repeat("0", api.MaxSource), number(0, api.MaxSource, 0), end(api.MaxSource))
}

func TestP201Long(t *testing.T) {
	for _, s := range []string{" ", "@", ";", "a", "9", "#", "\xff"} {
		wantFault(t, strings.Repeat(s, api.MaxSource+1), api.ErrLong, 0)
	}
	wantFault(t, strings.Repeat("@", api.MaxSource), api.ErrByte, 0)
	wantFault(t, strings.Repeat(" ", api.MaxSource-1)+".", api.ErrByte, api.MaxSource-1)
}

func TestP201Many(t *testing.T) {
	for _, one := range []string{";", "a ", "x\n", "1,", "<="} {
		per := 1
		if one == "1," {
			per = 2
		}
		many := strings.Repeat(one, api.MaxTokens/per)
		for _, tail := range []string{"", " # a", "\t\r\n", "#@"} {
			list, f := lex.Scan([]byte(many + tail))
			if f != (api.Fault{}) || len(list) != api.MaxTokens+1 || list[api.MaxTokens] != end(len(many+tail)) {
				t.Errorf("Scan of MaxTokens of %q and %q: %d, %v", one, tail, len(list), f)
			}
		}
		for _, over := range []string{";", "@", ".", "\xff", "b", strings.Repeat("b", 65), "9", strings.Repeat("9", 65)} {
			wantFault(t, many+" "+over, api.ErrMany, len(many)+1)
			wantFault(t, many+"#@\n"+over+"@", api.ErrMany, len(many)+3)
		}
	}
	many := strings.Repeat(";", api.MaxTokens)
	wantFault(t, many+";", api.ErrMany, 65536)
	wantFault(t, many+"@", api.ErrMany, 65536)
	wantFault(t, many[1:]+"@", api.ErrByte, 65535)
	wantFault(t, many[1:]+strings.Repeat("a", 65)+";", api.ErrName, 65535)
	wantFault(t, many[1:]+strings.Repeat("9", 65)+";", api.ErrNumber, 65535)
}

func TestP201FirstFault(t *testing.T) {
	long, large := strings.Repeat("a", 65), strings.Repeat("9", 11)
	wantFault(t, "1 "+long+" "+large+" @", api.ErrName, 2)
	wantFault(t, "1 "+large+" "+long+" @", api.ErrNumber, 2)
	wantFault(t, "1 @ "+long+" "+large, api.ErrByte, 2)
	wantFault(t, large+long, api.ErrNumber, 0)
}

func TestP202Is(t *testing.T) {
	for _, s := range strings.Fields(keptWords) {
		if !lex.Is(s) || lex.IsName(s) {
			t.Errorf("%q: Is %v, IsName %v; want a kept word", s, lex.Is(s), lex.IsName(s))
		}
		for _, near := range []string{"", s + " ", " " + s, s + "\x00", s + s, s[1:] + "0", strings.ToUpper(s), s + "\n"} {
			if lex.Is(near) {
				t.Errorf("Is(%q)", near)
			}
		}
	}
	for _, s := range []string{"", " ", "policy queue", keptWords, "==", ";", "1", "end", "front back", "\xff"} {
		if lex.Is(s) {
			t.Errorf("Is(%q)", s)
		}
	}
}

func TestP202IsName(t *testing.T) {
	for _, s := range []string{"a", "z", "A", "Z", "_", "x1", "xx", "X", "Queue", "_9", "a_b", "ghosts", strings.Repeat("n", 64), "_" + strings.Repeat("9", 63)} {
		if !lex.IsName(s) || lex.Is(s) {
			t.Errorf("%q: IsName %v, Is %v; want a name", s, lex.IsName(s), lex.Is(s))
		}
	}
	for _, s := range []string{
		"", "1", "1a", "a-", "a b", " a", "a ", "a#", "#a", "a\n", "a.b", "\xc3\xa9", "a\xc3\xa9", "a\x00", "@", "`", "[", "a{", "a/", "a:", "a@", "a[", "a`",
		strings.Repeat("n", 65), strings.Repeat("n", 64) + ";", strings.Repeat("n", 1<<20),
	} {
		if lex.IsName(s) {
			t.Errorf("IsName(%.80q)", s)
		}
	}
}

// IsName and Is tell of a word what Scan tells of it as a whole text.
func TestP202AsScanned(t *testing.T) {
	eachText(func(s string) {
		list, f := lex.Scan([]byte(s))
		whole := f == (api.Fault{}) && len(list) == 2 && list[0].At == 0 && list[0].End == len(s)
		if want := whole && list[0].Kind == api.TokName; lex.IsName(s) != want {
			t.Errorf("IsName(%q): %v", s, !want)
		}
		if want := whole && list[0].Kind == api.TokWord; lex.Is(s) != want {
			t.Errorf("Is(%q): %v", s, !want)
		}
	})
}

func TestP2HandedInStays(t *testing.T) {
	for _, s := range []string{"", "set p=p+1; # up", "a...b", "#", strings.Repeat("a", 65)} {
		room := []byte(s + "#;a1@")
		lex.Scan(room[:len(s)])
		if string(room) != s+"#;a1@" {
			t.Errorf("Scan(%q) changed it: %q", s, room)
		}
	}
}

func TestP2NotKept(t *testing.T) {
	text := []byte("set p=p+1; # up")
	list, _ := lex.Scan(text)
	want := slices.Clone(list)
	copy(text, bytes.Repeat([]byte{'@'}, len(text)))
	if !slices.Equal(list, want) {
		t.Error("an answer changes with the text")
	}
}

func TestP2AnswersApart(t *testing.T) {
	text := []byte("set p=p+1; # up")
	one, _ := lex.Scan(text)
	two, _ := lex.Scan(text)
	want := slices.Clone(two)
	one = one[:cap(one)]
	for i := range one {
		one[i] = api.Token{Kind: -1}
	}
	three, _ := lex.Scan(text)
	if !slices.Equal(two, want) || !slices.Equal(three, want) {
		t.Error("two answers share memory")
	}
}
