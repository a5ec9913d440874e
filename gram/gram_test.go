package gram_test

import (
	"math"
	"slices"
	"strings"
	"testing"

	"winnow/api"
	"winnow/gram"
)

func row(kind, kids int) api.Row                 { return api.Row{Kind: kind, Kids: kids} }
func of(kind int, name string, kids int) api.Row { return api.Row{Kind: kind, Name: name, Kids: kids} }
func number(n int) api.Row                       { return api.Row{Kind: api.NNum, N: n} }
func spot(kind int, name string, end, n int) api.Row {
	return api.Row{Kind: kind, Name: name, End: end, Kids: n}
}

func wantTree(t *testing.T, text string, want []api.Row, places []int) {
	t.Helper()
	rows, at, f := gram.Parse([]byte(text))
	if f != (api.Fault{}) || !slices.Equal(rows, want) || !slices.Equal(at, places) {
		t.Errorf("Parse(%.200q):\n%v\n%v\n%v; want\n%v\n%v", text, rows, at, f, want, places)
	}
}

func wantFault(t *testing.T, text string, err api.Errno, at int) {
	t.Helper()
	rows, places, f := gram.Parse([]byte(text))
	if f != (api.Fault{Err: err, At: at}) || len(rows) > 0 || len(places) > 0 {
		t.Errorf("Parse(%.200q): %d rows, %d places, %v; want %v at %d", text, len(rows), len(places), f, err, at)
	}
}

func wantRight(t *testing.T, text string) []api.Row {
	t.Helper()
	rows, _, f := gram.Parse([]byte(text))
	if f != (api.Fault{}) {
		t.Errorf("Parse(%.200q): %v", text, f)
	}
	return rows
}

func wantCheck(t *testing.T, rows []api.Row, err api.Errno, at int) {
	t.Helper()
	if f := gram.Check(rows); f != (api.Fault{Err: err, At: at}) {
		t.Errorf("Check(%.300v): %v; want %v at %d", rows, f, err, at)
	}
}

// required is a policy's text with an expression in it.
func required(e string) string { return "policy p{require " + e + ";}" }

// done is one with a doing.
func done(d string) string { return "policy p{on miss{" + d + "}}" }

func TestP301Examples(t *testing.T) {
	wantTree(t, "policy p { }", []api.Row{of(api.NPolicy, "p", 0)}, []int{0})
	wantTree(t, "policy p { queue q resident; on miss { if full(q) { evict q back; } insert q front; } }",
		[]api.Row{
			of(api.NPolicy, "p", 2), of(api.NQueue, "q", 0), row(api.NMiss, 1), row(api.NBlock, 2), row(api.NIf, 2), of(api.NFull, "q", 0),
			row(api.NBlock, 1), spot(api.NEvict, "q", api.Back, 0), spot(api.NInsert, "q", api.Front, 0),
		}, []int{0, 11, 29, 37, 39, 42, 50, 52, 68})
	wantTree(t, "policy p { require 1 - 2 - 3 < -4; }",
		[]api.Row{
			of(api.NPolicy, "p", 1), row(api.NRequire, 1), row(api.NLt, 2), row(api.NSub, 2), row(api.NSub, 2),
			number(1), number(2), number(3), row(api.NNeg, 1), number(4),
		}, []int{0, 11, 29, 25, 21, 19, 23, 27, 31, 32})
	wantFault(t, "policy p { require 1 < 2 < 3; }", api.ErrToken, 25)
	wantFault(t, "policy p {", api.ErrToken, 10)
	wantFault(t, "policy p { on miss { } queue q ghost; }", api.ErrToken, 23)
	wantFault(t, "policy x { }", api.ErrToken, 7)
}

// Each kind of row once, with all that the table says of it.
func TestP301EachKind(t *testing.T) {
	wantTree(t, `policy all {
queue q resident; queue g ghost;
var v = 1 in 0 .. 2; tag t in 3; require true;
rule r { }
on hit q { } on ghost g { pass; } on miss { { } } }`,
		[]api.Row{
			of(api.NPolicy, "all", 9), of(api.NQueue, "q", 0), of(api.NGhostQueue, "g", 0),
			of(api.NVar, "v", 3), number(1), number(0), number(2), of(api.NTag, "t", 1), number(3), row(api.NRequire, 1), row(api.NTrue, 0),
			of(api.NRule, "r", 1), row(api.NBlock, 0),
			of(api.NHit, "q", 1), row(api.NBlock, 0), of(api.NGhost, "g", 1), row(api.NBlock, 1), row(api.NPass, 0), row(api.NMiss, 1), row(api.NBlock, 1), row(api.NBlock, 0),
		}, []int{0, 13, 31, 46, 54, 59, 64, 67, 76, 79, 87, 93, 100, 104, 113, 117, 128, 130, 138, 146, 148})
	wantTree(t, done("loop 2 while false { } set v = size; mark x t = 1; mark front(q) t = 0; mark back(q) t = total;"),
		[]api.Row{
			of(api.NPolicy, "p", 1), row(api.NMiss, 1), row(api.NBlock, 5),
			row(api.NLoop, 3), number(2), row(api.NFalse, 0), row(api.NBlock, 0), of(api.NSet, "v", 1), row(api.NSize, 0),
			of(api.NMark, "t", 2), row(api.NX, 0), number(1), of(api.NMark, "t", 2), of(api.NEndOf, "q", 0), number(0),
			of(api.NMark, "t", 2), spot(api.NEndOf, "q", api.Back, 0), row(api.NTotal, 0),
		}, []int{0, 9, 16, 17, 22, 30, 36, 40, 48, 54, 59, 65, 68, 73, 86, 89, 94, 106})
	wantTree(t, done("insert q back; move q front; forget; shift q front r back; evict q back to g front; evict g front; drop g back; call r; pass;"),
		[]api.Row{
			of(api.NPolicy, "p", 1), row(api.NMiss, 1), row(api.NBlock, 9),
			spot(api.NInsert, "q", api.Back, 0), spot(api.NMove, "q", api.Front, 0), row(api.NForget, 0),
			spot(api.NShift, "q", api.Front, 1), spot(api.NPlace, "r", api.Back, 0),
			spot(api.NEvict, "q", api.Back, 1), spot(api.NPlace, "g", api.Front, 0), spot(api.NEvict, "g", api.Front, 0),
			spot(api.NDrop, "g", api.Back, 0), of(api.NCall, "r", 0), row(api.NPass, 0),
		}, []int{0, 9, 16, 17, 32, 46, 54, 68, 76, 92, 101, 116, 129, 137})
	wantTree(t, done("if empty(q) { } if at(q) { } else { } if v { } else if full(q) { } else { pass; }"),
		[]api.Row{
			of(api.NPolicy, "p", 1), row(api.NMiss, 1), row(api.NBlock, 3),
			row(api.NIf, 2), of(api.NEmpty, "q", 0), row(api.NBlock, 0),
			row(api.NIf, 3), of(api.NAt, "q", 0), row(api.NBlock, 0), row(api.NBlock, 0),
			row(api.NIf, 3), of(api.NVarOf, "v", 0), row(api.NBlock, 0),
			row(api.NIf, 3), of(api.NFull, "q", 0), row(api.NBlock, 0), row(api.NBlock, 1), row(api.NPass, 0),
		}, []int{0, 9, 16, 17, 20, 29, 33, 36, 42, 51, 55, 58, 60, 69, 72, 80, 89, 91})
	wantTree(t, required("min(len(q),cap(q))+max(t(x),t(back(q)))"),
		[]api.Row{
			of(api.NPolicy, "p", 1), row(api.NRequire, 1), row(api.NAdd, 2),
			row(api.NMin, 2), of(api.NLen, "q", 0), of(api.NCap, "q", 0),
			row(api.NMax, 2), of(api.NTagOf, "t", 1), row(api.NX, 0), of(api.NTagOf, "t", 1), spot(api.NEndOf, "q", api.Back, 0),
		}, []int{0, 9, 35, 17, 21, 28, 36, 40, 42, 45, 47})
	wantTree(t, required("!1*2/3+4-5==6&&7!=8||9<10||11<=12||13>14||15>=-16"),
		[]api.Row{
			of(api.NPolicy, "p", 1), row(api.NRequire, 1),
			row(api.NOr, 2), row(api.NOr, 2), row(api.NOr, 2), row(api.NOr, 2),
			row(api.NAnd, 2), row(api.NEq, 2), row(api.NSub, 2), row(api.NAdd, 2), row(api.NDiv, 2), row(api.NMul, 2), row(api.NNot, 1), number(1),
			number(2), number(3), number(4), number(5), number(6), row(api.NNe, 2), number(7), number(8),
			row(api.NLt, 2), number(9), number(10), row(api.NLe, 2), number(11), number(12),
			row(api.NGt, 2), number(13), number(14), row(api.NGe, 2), number(15), row(api.NNeg, 1), number(16),
		}, []int{0, 9, 57, 50, 42, 36, 30, 27, 25, 23, 21, 19, 17, 18, 20, 22, 24, 26, 29, 33, 32, 35, 39, 38, 40, 46, 44, 48, 54, 52, 55, 61, 59, 63, 64})
}

func TestP301LexFirst(t *testing.T) {
	wantFault(t, strings.Repeat(" ", api.MaxSource+1), api.ErrLong, 0)
	wantFault(t, "@"+strings.Repeat(" ", api.MaxSource), api.ErrLong, 0)
	wantFault(t, strings.Repeat(" ", api.MaxSource), api.ErrToken, api.MaxSource)
	wantRight(t, "policy p{}"+strings.Repeat(" ", api.MaxSource-10))
	wantFault(t, "@", api.ErrByte, 0)
	wantFault(t, "policy p{}&", api.ErrByte, 10)
	wantFault(t, "policy p{};&", api.ErrToken, 10)
	wantFault(t, "policy p{} @ ;", api.ErrByte, 11)
	wantFault(t, "policy "+strings.Repeat("a", 65)+"{}", api.ErrName, 7)
	wantFault(t, "policy {"+strings.Repeat("a", 65), api.ErrToken, 7)
	wantFault(t, required("1073741825"), api.ErrNumber, 17)
	// Of one token lex's fault goes first, also where no token may stand.
	wantFault(t, required("1 1073741825"), api.ErrNumber, 19)
	wantFault(t, required("1 2 1073741825"), api.ErrToken, 19)
	wantFault(t, required("1 @ 2"), api.ErrByte, 19)
	wantFault(t, required("- @ 2"), api.ErrByte, 19)
	wantFault(t, "policy @", api.ErrByte, 7)
	// A bad byte where a tag's bracket could stand, or an else, or a comparison's sign.
	wantFault(t, required("a@(x)"), api.ErrByte, 18)
	wantFault(t, done("if a{}@"), api.ErrByte, 23)
	wantFault(t, required("a<b@"), api.ErrByte, 20)
	wantFault(t, required("a<b<@"), api.ErrToken, 20)
}

func TestP301TooManyTokens(t *testing.T) {
	// 8 tokens stand around the doings, 2 are in each.
	most := (api.MaxTokens - 8) / 2
	right := done(strings.Repeat("pass;", most))
	if rows := wantRight(t, right); len(rows) != most+3 {
		t.Errorf("%d rows; want %d", len(rows), most+3)
	}
	many := done(strings.Repeat("pass;", most+1))
	wantFault(t, many, api.ErrMany, len(many)-2)
	wantFault(t, right+";", api.ErrMany, len(right))
	wantFault(t, right+"@", api.ErrMany, len(right))
	wantFault(t, "policy p{on miss{;"+strings.Repeat("pass;", most+1), api.ErrToken, 17)
}

// Where ^ stands is the fault; it is no part of the text.
var wrong = []string{
	"^", "^queue", "policy^", "policy p^", "policy p{^", "policy p{}^;", "policy p{}^policy", "policy p{}^}", "^{policy p{}}", "policy ^1{}", "policy p ^q{}",
	"policy p{^;}", "policy p{^pass;}", "policy p{^hit q{}}", "policy p{^x}",
	"policy p{queue ^resident;}", "policy p{queue q^;}", "policy p{queue q ^q;}", "policy p{queue q resident ^ghost;}", "policy p{queue q ghost^}",
	"policy p{var v ^in 1..2;}", "policy p{var v=^in 1..2;}", "policy p{var v=1^..2;}", "policy p{var v=1 in 2^;}",
	"policy p{var v=1 in 2..^;}", "policy p{var v=1 in 2..3^}", "policy p{var ^x=1 in 2..3;}",
	"policy p{tag t^=1;}", "policy p{tag t in^;}", "policy p{tag t in 1^..2;}", "policy p{tag ^in 1;}", "policy p{tag t in 1^}",
	"policy p{require^;}", "policy p{require 1^}", "policy p{require ^{};}",
	"policy p{rule ^{}}", "policy p{rule r^;}", "policy p{rule r{}^;}",
	"policy p{on ^q{}}", "policy p{on hit ^{}}", "policy p{on hit q ^q{}}", "policy p{on ghost^{}}", "policy p{on miss ^q{}}", "policy p{on miss^;}",
	"policy p{on miss{}^rule r{}}", "policy p{on miss{}^require 1;}", "policy p{on miss{}}^}", "policy p{on miss{{}}^",
	done("^;"), done("^on miss{}"), done("^queue q ghost;"), done("{^;}"), done("^resident"),
	done("if^{}"), done("if 1^;"), done("if 1 ^pass;"), done("if 1{}^;"), done("if 1{}else^;"), done("if 1{}else ^pass;"), done("if 1{}else{}^else{}"), done("^else{}"),
	done("loop^{}"), done("loop 1^{}"), done("loop 1 while^{}"), done("loop 1 while 1^;"), done("loop ^while 1{}"),
	done("set ^=1;"), done("set v^;"), done("set v^==1;"), done("set v=^;"), done("set v=1^}"),
	done("mark ^q t=1;"), done("mark ^t=1;"), done("mark x^=1;"), done("mark x t^;"), done("mark x t=^;"), done("mark x t=1^}"),
	done("mark front ^q t=1;"), done("mark back(^x)t=1;"), done("mark back(q^;)t=1;"), done("mark front(q)^=1;"),
	done("insert ^front;"), done("insert q^;"), done("insert q ^q;"), done("insert q front^}"), done("insert q front ^back;"),
	done("move ^x front;"), done("move q^;"), done("drop q^;"), done("drop q back ^to g front;"),
	done("forget^}"), done("forget ^q;"), done("pass^}"), done("pass ^pass;"),
	done("shift q front^;"), done("shift q front r^;"), done("shift q front ^to r back;"), done("shift q ^r front;"), done("shift q front r back ^q;"),
	done("evict q^;"), done("evict q back to^;"), done("evict q back to g^;"), done("evict q back ^g front;"), done("evict q back to g front ^to;"),
	done("call^;"), done("call ^x;"), done("call r^}"), done("call r^(x);"),
	required("^x"), required("^front"), required("^*1"), required("1+^*1"), required("1 ^1"), required("1 ^a"), required("1^(2)"), required("(1)^(2)"),
	required("^)"), required("(^)"), required("(1^;"), required("1^)"),
	required("1==2^==3"), required("1<2^>3"), required("1<=2+3^>=4"), required("1!=^"), required("1&&^&&1"), required("1^!1"), required("1+!^"),
	required("-^"), required("-^+1"), required("1- -^*2"), required("1^=2"), required("1^..2"), required("1^,2"),
	required("true^(x)"), required("size^(q)"), required("total^(q)"), required("len^"), required("len ^q"), required("len(^)"), required("len(^1)"), required("len(q^+1)"),
	required("cap(q^,q)"), required("at(^x)"), required("full(^front(q))"), required("empty^"),
	required("min^"), required("min(^)"), required("min(1^)"), required("min(1,^)"), required("max(1,2^,3)"), required("max ^1"), required("max(1,2^"),
	required("t(^)"), required("t(^q)"), required("t(^1)"), required("t(x^,x)"), required("t(front^)"), required("t(front(q)^"), required("t(x)^(x)"), required("(t)^(x)"),
}

func TestP301Wrong(t *testing.T) {
	for _, marked := range wrong {
		ahead, behind, _ := strings.Cut(marked, "^")
		wantFault(t, ahead+behind, api.ErrToken, len(ahead))
	}
}

// deep is an expression that opens n levels.
func deep(open string, n int, close string) string {
	return strings.Repeat(open, n) + "1" + strings.Repeat(close, n)
}

func TestP301Levels(t *testing.T) {
	for _, c := range []struct{ open, close string }{{"(", ")"}, {"-", ""}, {"!", ""}, {"min(", ",1)"}, {"max(1,", ")"}, {"1+(", ")"}} {
		wantRight(t, required(deep(c.open, 63, c.close)))
		last := max(0, strings.Index(c.open, "("))
		wantFault(t, required(deep(c.open, 64, c.close)), api.ErrNest, 17+63*len(c.open)+last)
		wantFault(t, required(deep(c.open, 99, c.close)), api.ErrNest, 17+63*len(c.open)+last)
	}
	// What has been closed does not count.
	wantRight(t, required(deep("-", 63, "")+"+"+deep("!", 63, "")+"<"+deep("(", 63, ")")))
	wantRight(t, done(strings.Repeat("{}", 100)+strings.Repeat("if a{}else ", 100)+"{}"+strings.Repeat("set v=-(1);", 100)))
	wantRight(t, required("1"+strings.Repeat("+-1", 100)+strings.Repeat("*len(q)", 100)+strings.Repeat("-t(front(q))", 100)))
	// A sign's level is closed behind its bare, not behind what the bare is held with.
	wantRight(t, required(strings.Repeat("(", 62)+"-1+-1*!a<-b&&-1||t(x)"+strings.Repeat(")", 62)))
	wantFault(t, required(strings.Repeat("(", 62)+"-1+-t(x)"), api.ErrNest, 79+5)
	for _, e := range []string{"a(x)", "len(q)", "cap(q)", "empty(q)", "full(q)", "at(q)", "(a)", "-a", "!a", "min(1,2)", "max(1,2)"} {
		wantRight(t, required(strings.Repeat("-", 62)+e))
		wantFault(t, required(strings.Repeat("-", 63)+e), api.ErrNest, 80+max(0, strings.Index(e, "(")))
		wantFault(t, required(strings.Repeat("(", 63)+e+strings.Repeat(")", 63)), api.ErrNest, 80+max(0, strings.Index(e, "(")))
	}
	wantRight(t, required(strings.Repeat("(", 61)+"a(back(q))"+strings.Repeat(")", 61)))
	wantFault(t, required(strings.Repeat("(", 62)+"a(back(q))"+strings.Repeat(")", 62)), api.ErrNest, 79+6)
	// Of blocks, two stand around.
	wantRight(t, done(strings.Repeat("{", 62)+strings.Repeat("}", 62)))
	wantFault(t, done(strings.Repeat("{", 63)+strings.Repeat("}", 63)), api.ErrNest, 17+62)
	wantFault(t, done(strings.Repeat("if a{", 63)), api.ErrNest, 17+62*5+4)
	wantFault(t, done(strings.Repeat("loop 1 while a{", 63)), api.ErrNest, 17+62*15+14)
	wantFault(t, done(strings.Repeat("if a{}else{", 63)), api.ErrNest, 17+62*11+4)
	wantFault(t, done(strings.Repeat("{", 62)+"mark front(q)t=1;"), api.ErrNest, 17+62+10)
}

func TestP301NestInItsOrder(t *testing.T) {
	full := strings.Repeat("(", 63)
	wantFault(t, required(full+"("), api.ErrNest, 80)
	wantFault(t, required(full+"(@"), api.ErrNest, 80)
	wantFault(t, required(full+"@("), api.ErrByte, 80)
	wantFault(t, required(full+"{"), api.ErrToken, 80)
	wantFault(t, required(full+"1("), api.ErrToken, 81)
	wantFault(t, required(full+"1-1"), api.ErrToken, 83)
	wantFault(t, required(full+"1!"), api.ErrToken, 81)
	wantFault(t, required(full+"1--1"), api.ErrNest, 82)
	wantFault(t, required(full+"-"+full), api.ErrNest, 80)
	wantFault(t, required(full+";("), api.ErrToken, 80)
	wantFault(t, "policy p{require "+full+"(", api.ErrNest, 80)
	wantFault(t, "policy p{require "+full, api.ErrToken, 80)
}

// turned is a tree with one row changed.
func turned(rows []api.Row, at int, to func(r *api.Row)) []api.Row {
	list := slices.Clone(rows)
	to(&list[at])
	return list
}

func TestP302Edges(t *testing.T) {
	wantCheck(t, nil, api.ErrShape, 0)
	wantCheck(t, []api.Row{}, api.ErrShape, 0)
	wantCheck(t, []api.Row{{}}, api.ErrShape, 0)
	wantCheck(t, []api.Row{number(1)}, api.ErrShape, 0)
	wantCheck(t, []api.Row{row(api.NBlock, 0)}, api.ErrShape, 0)
	p := []api.Row{of(api.NPolicy, "p", 0)}
	wantCheck(t, p, api.OK, 0)
	wantCheck(t, append(slices.Clone(p), p...), api.ErrShape, 1)
	for _, kids := range []int{1, 2, math.MaxInt} {
		wantCheck(t, []api.Row{of(api.NPolicy, "p", kids)}, api.ErrShape, 1)
	}
	for _, kids := range []int{-1, -2, math.MinInt} {
		wantCheck(t, []api.Row{of(api.NPolicy, "p", kids)}, api.ErrShape, 0)
	}
	for _, name := range []string{"", "x", "policy", "1", "a b", " a", "a-", "\xff", "é", strings.Repeat("a", 65)} {
		wantCheck(t, []api.Row{of(api.NPolicy, name, 0)}, api.ErrShape, 0)
	}
	wantCheck(t, []api.Row{of(api.NPolicy, strings.Repeat("a", 64), 0)}, api.OK, 0)
	n := []api.Row{of(api.NPolicy, "p", 1), row(api.NRequire, 1), number(0)}
	for value, err := range map[int]api.Errno{0: api.OK, 1: api.OK, api.MaxNum: api.OK, -1: api.ErrShape, api.MaxNum + 1: api.ErrShape, math.MinInt: api.ErrShape, math.MaxInt: api.ErrShape} {
		at := 0
		if err != api.OK {
			at = 2
		}
		wantCheck(t, turned(n, 2, func(r *api.Row) { r.N = value }), err, at)
	}
	for _, kind := range []int{math.MinInt, -1, 0, api.NCount, api.NCount + 1, math.MaxInt} {
		wantCheck(t, turned(n, 2, func(r *api.Row) { *r = row(kind, 0) }), api.ErrShape, 2)
	}
	// The first wrong row is told, not that which is the cause.
	wantCheck(t, []api.Row{of(api.NPolicy, "p", 2), row(api.NRequire, 1), row(api.NRequire, 1), number(1)}, api.ErrShape, 2)
	wantCheck(t, []api.Row{of(api.NPolicy, "p", 2), row(api.NMiss, 1), row(api.NBlock, 0), of(api.NRule, "r", 1), row(api.NBlock, 0)}, api.ErrShape, 3)
	wantCheck(t, []api.Row{of(api.NPolicy, "p", 2), of(api.NRule, "r", 1), row(api.NBlock, 0), row(api.NMiss, 1), row(api.NBlock, 0)}, api.OK, 0)
}

// nested is a tree with n rows of a kind, one within the other.
func nested(kind, n int) []api.Row {
	rows := []api.Row{of(api.NPolicy, "p", 1), row(api.NRequire, 1)}
	for range n {
		rows = append(rows, row(kind, 1))
	}
	return append(rows, number(1))
}

func TestP302Nest(t *testing.T) {
	wantCheck(t, nested(api.NNeg, 63), api.OK, 0)
	wantCheck(t, nested(api.NNot, 64), api.ErrNest, 0)
	// A wrong row goes ahead of too many levels, wherever it stands.
	wantCheck(t, append(nested(api.NNeg, 64), number(1)), api.ErrShape, 67)
	wantCheck(t, nested(api.NNeg, 99)[:101], api.ErrShape, 101)
	wantCheck(t, turned(nested(api.NNeg, 64), 66, func(r *api.Row) { r.N = -1 }), api.ErrShape, 66)
	// Rows held together from the left open none, from the right one each.
	left := []api.Row{of(api.NPolicy, "p", 1), row(api.NRequire, 1)}
	right := slices.Clone(left)
	for range 64 {
		left = append(left, row(api.NSub, 2))
		right = append(right, row(api.NSub, 2), number(1))
	}
	right = append(right, number(1))
	for range 65 {
		left = append(left, number(1))
	}
	wantCheck(t, left, api.OK, 0)
	wantCheck(t, right, api.OK, 0)
	if a, b := gram.Levels(left), gram.Levels(right); a != 1 || b != 64 {
		t.Errorf("Levels: %d, %d", a, b)
	}
	more := slices.Insert(right, 2, row(api.NSub, 2), number(1))
	wantCheck(t, more, api.ErrNest, 0)
}

func TestP303Examples(t *testing.T) {
	rows := wantRight(t, "policy p{var v=1-2 in -3..4; on miss{if a{}else if b{pass;}else{forget;}loop 2 while 1{}}}")
	for at, want := range [][]int{
		{1, 8}, {2, 5, 7}, {3, 4}, {}, {}, {6}, {}, {}, {9}, {10, 19}, {11, 12, 13}, {}, {}, {14, 15, 17}, {}, {16}, {}, {18}, {}, {20, 21, 22}, {}, {}, {},
	} {
		if list := gram.Kids(rows, at); !slices.Equal(list, want) {
			t.Errorf("Kids(%d): %v; want %v", at, list, want)
		}
	}
	for at, want := range []int{23, 8, 5, 4, 5, 7, 7, 8, 23, 23, 19, 12, 13, 19, 15, 17, 17, 19, 19, 23, 21, 22, 23} {
		if end := gram.End(rows, at); end != want {
			t.Errorf("End(%d): %d; want %d", at, end, want)
		}
	}
}

// ruleOf is the chapter's list of rules, word for word.
func ruleOf(kind int) int {
	switch {
	case kind == api.NOr:
		return 1
	case kind == api.NAnd:
		return 2
	case kind >= api.NEq && kind <= api.NGe:
		return 3
	case kind == api.NAdd || kind == api.NSub:
		return 4
	case kind == api.NMul || kind == api.NDiv:
		return 5
	case kind == api.NNeg || kind == api.NNot:
		return 6
	case kind >= api.NNum && kind <= api.NOr:
		return 7
	}
	return 0
}

func TestP304AllKinds(t *testing.T) {
	for parent := -1; parent <= api.NCount+1; parent++ {
		for kind := -1; kind <= api.NCount+1; kind++ {
			for kid := range 3 {
				a, b := ruleOf(parent), ruleOf(kind)
				want := false
				switch {
				case b == 0:
				case 1 <= a && a <= 5:
					want = b < a || b == a && (kid == 1 || b == 3)
				case a == 6:
					want = b < 6
				}
				if got := gram.Loose(parent, kid, kind); got != want {
					t.Errorf("Loose(%d, %d, %d): %v", parent, kid, kind, got)
				}
			}
		}
	}
}

func TestP304Examples(t *testing.T) {
	if !gram.Loose(api.NSub, 1, api.NSub) || !gram.Loose(api.NLt, 0, api.NLt) || gram.Loose(api.NSub, 0, api.NSub) || gram.Loose(api.NAnd, 1, api.NLt) {
		t.Error("Loose: other than the examples")
	}
}

func TestP305Examples(t *testing.T) {
	for text, want := range map[string]int{
		"policy p { require !(1 < 2); }": 3,
		"policy p{}":                     1,
		required("((((1))))"):            1,
		required("(1+2)+3"):              1,
		required("1+(2+3)"):              2,
		required("(1<2)==(3<4)"):         2,
		required("-1+-1"):                2,
		required("- - -1"):               4,
		required("-(!(1*2))"):            4,
		required("len(q)"):               2,
		required("t(x)"):                 2,
		required("t(front(q))"):          3,
		required("min(1,max(2,(3)))"):    3,
		required("min((1+2)*3,4)"):       3,
		"policy p{queue q ghost;}":       1,
		"policy p{var v=1 in 2..-3;}":    2,
		"policy p{tag t in(1);}":         1,
		"policy p{rule r{}}":             2,
		"policy p{on miss{{{}}{}}}":      4,
		done("if 1{}"):                   3,
		done("if 1{}else{{}}"):           4,
		done("if a{}else if b{}"):        3,
		done("loop 1 while 2{}"):         3,
		done("loop 1 while -at(q){}"):    4,
		done("mark x t=1;"):              2,
		done("mark back(q)t=1;"):         3,
		done("evict q back to g front;"): 2,
	} {
		if n := gram.Levels(wantRight(t, text)); n != want {
			t.Errorf("Levels of %q: %d; want %d", text, n, want)
		}
	}
}

func TestP306Examples(t *testing.T) {
	rows := wantRight(t, "policy p { queue q resident; on miss { if full(q) { evict q back; } insert q front; } }")
	want := []int{0, 1, 1, 2, 3, 4, 4, 5, 3}
	var list []int
	for at, below := range gram.Walk(rows) {
		if at != len(list) {
			t.Fatalf("Walk: row %d behind %d rows", at, len(list))
		}
		list = append(list, below)
	}
	if !slices.Equal(list, want) {
		t.Errorf("Walk: %v; want %v", list, want)
	}
}
