package lex_test

import (
	"math/big"
	"math/rand"
	"regexp"
	"slices"
	"strings"
	"testing"

	"winnow/api"
	"winnow/lex"
)

// bytesOfAll is what short texts are made of: bytes of each kind of token, blanks, a remark's, and such as begin no token.
const bytesOfAll = "xa_0 \n#.=!<&;@\xff"

// known are texts longer than the short ones.
var known = []string{
	"policy p {\n\tqueue q resident;\n\ton miss { insert q front; }\n}\n",
	"set p=p+1; # up", "var k in 0..9;", "if len(q)>=cap(q)&&!empty(q)||total<size{}else{}#",
	"a<==b", "a...b", "1073741824 1073741825", strings.Repeat("a", 64) + " " + strings.Repeat("b", 65),
	"min(1,max(2,-3*4/5))!=6", "x x1 1x", "#\n#\n\r\t#",
}

// pieces are what long texts are made of.
var pieces = []string{
	" ", "\n", "\t", "\r", "#", "# a @\n", "queue", "x", "rule", "p", "_1", "9", "00", "1073741824", "1073741825",
	"..", ".", "=", "==", "!", "!=", "<", "<=", ">", ">=", "&&", "&", "||", "|", "{", "}", "(", ")", ";", ",", "+", "-", "*", "/",
	strings.Repeat("n", 30), "@", "\xc3\xa9",
}

// eachText goes over the known texts, over all of at most four of the bytes, and over a row of long ones.
func eachText(do func(s string)) {
	for _, s := range known {
		do(s)
	}
	var grow func(s string)
	grow = func(s string) {
		do(s)
		for i := 0; i < len(bytesOfAll) && len(s) < 4; i++ {
			grow(s + bytesOfAll[i:i+1])
		}
	}
	grow("")
	r := rand.New(rand.NewSource(2))
	for range 3000 {
		s := ""
		for range r.Intn(12) {
			s += pieces[r.Intn(len(pieces))]
		}
		do(s)
	}
}

var (
	blanksThere = regexp.MustCompile(`^(?:[\t\n\r ]|#[^\n]*(?:\n|$))*`)
	tokenThere  = regexp.MustCompile(`^(?:([A-Za-z_][A-Za-z0-9_]*)|([0-9]+)|\.\.|==|!=|<=|>=|&&|\|\||[{}();,=<>+*/!-])`)
	keptWhole   = regexp.MustCompile(`^(?:` + strings.ReplaceAll(keptWords, " ", "|") + `)$`)
)

// scanned tells a text's tokens by the chapter's words as patterns.
func scanned(s string) ([]api.Token, api.Fault) {
	var list []api.Token
	at := 0
	for {
		at += len(blanksThere.FindString(s[at:]))
		if at == len(s) {
			return append(list, end(at)), api.Fault{}
		}
		m := tokenThere.FindStringSubmatch(s[at:])
		if m == nil {
			return nil, api.Fault{Err: api.ErrByte, At: at}
		}
		token := api.Token{Kind: api.TokSign, At: at, End: at + len(m[0])}
		switch {
		case keptWhole.MatchString(m[1]):
			token.Kind = api.TokWord
		case len(m[1]) > 64:
			return nil, api.Fault{Err: api.ErrName, At: at}
		case m[1] != "":
			token.Kind = api.TokName
		case m[2] != "":
			n, _ := new(big.Int).SetString(m[2], 10)
			if n.Cmp(big.NewInt(1<<30)) > 0 {
				return nil, api.Fault{Err: api.ErrNumber, At: at}
			}
			token.Kind, token.N = api.TokNumber, int(n.Int64())
		}
		list = append(list, token)
		at = token.End
	}
}

func TestP201AsPatterns(t *testing.T) {
	eachText(func(s string) {
		want, fault := scanned(s)
		if list, f := lex.Scan([]byte(s)); f != fault || !slices.Equal(list, want) {
			t.Errorf("Scan(%q): %v, %v; want %v, %v", s, list, f, want, fault)
		}
	})
}

func TestP203TokensInTheirPlaces(t *testing.T) {
	eachText(func(s string) {
		list, f := lex.Scan([]byte(s))
		if f != (api.Fault{}) {
			return
		}
		last := len(list) - 1
		was := 0
		for i, k := range list {
			if k.At < was || k.End > len(s) || (k.End > k.At) != (i < last) || (k.Kind == api.TokEnd) != (i == last) {
				t.Errorf("Scan(%q): token %d is %v, behind %d", s, i, k, was)
				return
			}
			if between := s[was:k.At]; blanksThere.FindString(between) != between {
				t.Errorf("Scan(%q): %q stands ahead of token %d", s, between, i)
			}
			if i < last {
				wantTokens(t, s[k.At:k.End], api.Token{Kind: k.Kind, End: k.End - k.At, N: k.N}, end(k.End-k.At))
			}
			was = k.End
		}
		if list[last] != end(len(s)) {
			t.Errorf("Scan(%q): the end is %v", s, list[last])
		}
	})
}

// blanksAll are blanks that may stand for others, and between any two tokens.
var blanksAll = []string{" ", "\t", "\n", "\r", "  ", "#\n", "# a @ 1073741825 \r\n", "\r\n\t #;\n#\n"}

// wantAlike holds a text's tokens against others, but for their places, and against the bytes that they had.
func wantAlike(t *testing.T, s, was string, list []api.Token) {
	t.Helper()
	other, f := lex.Scan([]byte(s))
	if f != (api.Fault{}) || len(other) != len(list) {
		t.Errorf("Scan(%q): %v, %v; want the tokens of %q", s, other, f, was)
		return
	}
	for i, k := range other {
		if o := list[i]; k.Kind != o.Kind || k.N != o.N || s[k.At:k.End] != was[o.At:o.End] {
			t.Errorf("Scan(%q): token %d is %v; want it as %v of %q", s, i, k, o, was)
		}
	}
}

func TestP204OtherBlanks(t *testing.T) {
	turn := 0
	eachText(func(s string) {
		list, f := lex.Scan([]byte(s))
		if f != (api.Fault{}) {
			return
		}
		var other, more, plain strings.Builder
		was := 0
		for _, k := range list {
			blank := blanksAll[turn%len(blanksAll)]
			turn++
			if k.At > was {
				other.WriteString(blank)
			}
			more.WriteString(s[was:k.At])
			// A remark that goes up to the text's end takes in what stands behind it.
			if k.Kind != api.TokEnd {
				more.WriteString(blank)
				if was > 0 {
					plain.WriteString(" ")
				}
			}
			for _, to := range []*strings.Builder{&other, &more, &plain} {
				to.WriteString(s[k.At:k.End])
			}
			was = k.End
		}
		wantAlike(t, other.String(), s, list)
		wantAlike(t, more.String(), s, list)
		wantAlike(t, plain.String(), s, list)
	})
}

func TestP205AheadOfAFault(t *testing.T) {
	long := []string{
		strings.Repeat("a", 64) + " && " + strings.Repeat("b", 65),
		"0..1073741824 <= 1073741825",
		"1073741824&&" + strings.Repeat("_", 64) + "||&",
	}
	check := func(s string) {
		_, f := lex.Scan([]byte(s))
		if f == (api.Fault{}) {
			return
		}
		for n := range f.At + 1 {
			list, g := lex.Scan([]byte(s[:n]))
			cut := g == api.Fault{Err: api.ErrByte, At: n - 1} && n < f.At
			if g != (api.Fault{}) && !cut {
				t.Errorf("Scan(%q): %v, but of its first %d bytes: %v", s, f, n, g)
			}
			if n == f.At && (len(list) == 0 || list[len(list)-1] != end(n)) {
				t.Errorf("Scan(%q) ahead of its fault at %d: %v", s, n, list)
			}
		}
	}
	eachText(check)
	for _, s := range long {
		check(s)
	}
}

func TestP205AheadOfTooMany(t *testing.T) {
	many := strings.Repeat(";", api.MaxTokens-1) + "&&"
	wantFault(t, many+"a", api.ErrMany, len(many))
	wantFault(t, many[:len(many)-1], api.ErrByte, len(many)-2)
	if list, f := lex.Scan([]byte(many)); f != (api.Fault{}) || len(list) != api.MaxTokens+1 {
		t.Errorf("Scan ahead of one too many: %d, %v", len(list), f)
	}
}

func TestP3Again(t *testing.T) {
	for _, s := range known {
		list, f := lex.Scan([]byte(s))
		if again, g := lex.Scan([]byte(s)); g != f || !slices.Equal(again, list) {
			t.Errorf("Scan(%q) twice: %v, %v and %v, %v", s, list, f, again, g)
		}
	}
}
