package lab_test

import (
	"fmt"
	"slices"
	"strings"
	"testing"

	"winnow/api"
	"winnow/gram"
	"winnow/lab"
	"winnow/model"
	"winnow/show"
)

// answers are those of a script, a line each.
func answers(t *testing.T, script string) []string {
	t.Helper()
	text, right := strings.CutSuffix(lab.Run(script), "\n")
	if !right {
		t.Fatalf("%.300s: the last line has no line feed", script)
	}
	return strings.Split(text, "\n")
}

// wantRun plays lines, each with its answer behind a =>.
func wantRun(t *testing.T, lines ...string) {
	t.Helper()
	var script, want []string
	for _, line := range lines {
		asked, answer, right := strings.Cut(line, " => ")
		if !right {
			t.Fatalf("%s: no answer is told", line)
		}
		script, want = append(script, asked), append(want, answer)
	}
	got := answers(t, strings.Join(script, "\n"))
	if len(got) != len(want) {
		t.Fatalf("%d answers; want %d", len(got), len(want))
	}
	for i := range want {
		if got[i] != want[i] {
			t.Errorf("line %d, %.300s: %.300s; want %.300s", i+1, script[i], got[i], want[i])
		}
	}
}

// list is numbers with blanks between.
func list[T any](numbers []T) string {
	return strings.Trim(fmt.Sprint(numbers), "[]")
}

// loading is a line that loads a text.
func loading(text string, caps ...int) string {
	return "text " + lab.Quote([]byte(text)) + " " + list(caps)
}

func TestP2105Examples(t *testing.T) {
	wantRun(t, "load lru 2 => ok", "access 5 6 5 7 => - - + -,6", "state => ok [7 5]", "stats => ok 1 3 1 0", "remove 5 => resident")
	wantRun(t, "stats => none", `text "policy p { on miss { insert q front; } }" 4 => unknown 1 22`, "load arc 0 => arg")
}

// A line feed parts lines; behind the last one there is no line without bytes.
func TestP2105Lines(t *testing.T) {
	for script, want := range map[string]string{
		"": "", "\n": "\n", "\n\n": "\n\n", "stats": "none\n", "stats\n": "none\n", "\nstats": "\nnone\n", "stats\n\n": "none\n\n",
		" ": "\n", "#": "\n", "# stats\nstats": "\nnone\n", " \t\n\t# \"": "\n\n", "stats # now": "none\n",
		"stats\r\nstats": "word\nnone\n", "\"sta\nts\"": "word\nword\n", "\r": "word\n", "\x00": "word\n", "\xff\n\xfe": "word\nword\n",
		"\"\"": "word\n", "\"stats\"": "none\n", "\"\\x73tats\"": "none\n", "\"stats\"x": "word\n", "\"stats": "word\n", "\t stats \t": "none\n",
	} {
		if got := lab.Run(script); got != want {
			t.Errorf("%q: %q; want %q", script, got, want)
		}
	}
}

func TestP2105Long(t *testing.T) {
	const most = api.MaxLines
	for script, want := range map[string]string{
		strings.Repeat("\n", most):                                       strings.Repeat("\n", most),
		strings.Repeat("\n", most-1) + "stats":                           strings.Repeat("\n", most-1) + "none\n",
		strings.Repeat("\n", most) + "stats":                             "long\n",
		strings.Repeat("\n", most) + " ":                                 "long\n",
		strings.Repeat("\n", most+1):                                     "long\n",
		strings.Repeat("stats\n", most):                                  strings.Repeat("none\n", most),
		strings.Repeat("stats\n", most+1):                                "long\n",
		"stats" + strings.Repeat(" ", api.MaxScript-5):                   "none\n",
		"stats" + strings.Repeat(" ", api.MaxScript-4):                   "long\n",
		"stats" + strings.Repeat(" ", api.MaxScript-6) + "\n":            "none\n",
		"stats" + strings.Repeat(" ", api.MaxScript-5) + "\n":            "long\n",
		"#" + strings.Repeat("é", api.MaxScript/2-1) + "\n":              "\n",
		"#" + strings.Repeat("é", api.MaxScript/2) + "\n":                "long\n",
		strings.Repeat("a", api.MaxScript):                               "word\n",
		strings.Repeat("a", api.MaxScript+1):                             "long\n",
		strings.Repeat(strings.Repeat(" ", 127)+"\n", most):              strings.Repeat("\n", most),
		strings.Repeat(strings.Repeat(" ", 127)+"\n", most-1) + "\n\n":   "long\n",
		strings.Repeat(strings.Repeat(" ", 127)+"\n", most-1) + "\nload": "long\n",
	} {
		if got := lab.Run(script); got != want {
			t.Errorf("%d bytes, %d line feeds: %.100q; want %.100q", len(script), strings.Count(script, "\n"), got, want)
		}
	}
}

// rightLines are lines that are commands, of each name one at least, and whether they ask for an engine.
var rightLines = map[string]bool{
	"load lru 2": false, "load s3fifo 0": false, "text a 1": false, "text \"\" 1": false, "text a 1 2": false, "text a -1 2 -3 4": false, "print a": false, "source fifo": false, "curve 1 2 3 4": false,
	"access 1": true, "access 1 2 3 4 5": true, "remove 1": true, "zipf 1 2 3": true, "uniform 1 2 3": true, "loop 1 2": true, "stats": true, "state": true, "code": true, "size": true,
}

// A line has just as many words as the table says, each of its sign; else nothing is done.
func TestP2105Word(t *testing.T) {
	for line, asks := range rightLines {
		words := strings.Fields(line)
		if got := answers(t, line)[0]; got == "word" || (got == "none") != asks {
			t.Errorf("%s: %s", line, got)
		}
		if got := answers(t, "load fifo 9\n"+line)[1]; got == "word" || got == "none" && words[0] != "remove" {
			t.Errorf("%s: %s", line, got)
		}
		wrong := []string{strings.ToUpper(line), "x" + line, words[0] + "x", line + "\"", line + " \"x", "\"" + line, "\"" + line + "\"x"}
		if len(words) > 1 {
			wrong = append(wrong, "\""+line+"\"")
		}
		if words[0] != "access" && words[0] != "text" {
			wrong = append(wrong, line+" 1", line+" \"\"", line+" 1 2")
		}
		if many := words[0] == "access" && len(words) > 2 || words[0] == "text" && len(words) > 3; !many && len(words) > 1 {
			wrong = append(wrong, strings.Join(words[:len(words)-1], " "), words[0])
		}
		for i := range words[1:] {
			if i == 0 && (words[0] == "text" || words[0] == "print") {
				continue
			}
			for _, other := range []string{`""`, "x", "1x", "x1", "+1", "1.", "1e1", "0x1", "1_0", "--1", "-", "-0", "-00", `"1 "`, "1,", "\x001", "٣", "fif", "fifoo", "FIFO", "1\r"} {
				spoilt := slices.Clone(words)
				spoilt[i+1] = other
				wrong = append(wrong, strings.Join(spoilt, " "))
			}
		}
		for _, one := range wrong {
			for _, ahead := range []string{"", "load fifo 9\n"} {
				list := answers(t, ahead+one+"\nstats")
				if got := list[len(list)-2]; got != "word" {
					t.Errorf("%s%s: %s", ahead, one, got)
				}
				if got := list[len(list)-1]; ahead != "" && got != "ok 0 0 0 0" || ahead == "" && got != "none" {
					t.Errorf("%s%s: then stats are %s", ahead, one, got)
				}
			}
		}
	}
	for _, line := range []string{"lode lru 2", "ok", "none", "word", "5", "load", "load lru", "load 2 lru", "load lru 2 2", "load lru lru", "text a", "text", "text 1", "text a b 1", "access", "remove", "remove 1 2", "stats stats", "#stats x\nquit"} {
		if got := answers(t, line); got[len(got)-1] != "word" {
			t.Errorf("%s: %s", line, got)
		}
	}
}

func TestP2105Numbers(t *testing.T) {
	for word, want := range map[string]string{
		"1": "ok", "01": "ok", "000000000000001": "ok", "0000000000000001": "word", "0": "arg", "00": "arg", "000000000000000": "arg", "-1": "arg", "-01": "arg",
		"999999999999999": "arg", "-999999999999999": "arg", "1000000000000000": "word", "-1000000000000000": "word", "-000000000000001": "arg", "-0000000000000001": "word",
		"-0": "word", "-00": "word", "-000000000000000": "word", "": "word", "-": "word", "1-": "word", "- 1": "word", "--1": "word", "+1": "word", "1048576": "ok", "1048577": "arg", "4294967297": "arg",
	} {
		wantRun(t, "load lru "+word+" => "+want)
		line := "loop 0 " + word
		if want == "ok" {
			want = "ok 0 0"
		} else if word == "1048577" {
			want = "ok 0 0"
		}
		wantRun(t, "load lru 1 => ok", line+" => "+want)
	}
}

func TestP2105Keys(t *testing.T) {
	wantRun(t, "load lru 9 => ok",
		"access 0 00 18446744073709551615 18446744073709551614 => - + - -", "access 09223372036854775808 9223372036854775808 => - +",
		"access 00000000000000000000 00000000000000000001 => + -", "access 000000000000000000000 => word", "access 000000000000000000001 => word",
		"access 18446744073709551616 => word", "access 20000000000000000000 => word", "access 99999999999999999999 => word", "access 018446744073709551615 => word",
		"access -1 => word", "access -0 => word", "access 1 2 -3 => word", "access 1 2 x => word", "remove 18446744073709551616 => word", "remove 00000000000000000001 => resident",
		"state => ok [0 9223372036854775808 18446744073709551614 18446744073709551615]", "stats => ok 3 5 0 1")
}

func TestP2105Load(t *testing.T) {
	wantRun(t, "load fifo 1 => ok", "load lru 1 => ok", "load clock 1 => ok", "load twoq 1 => arg", "load twoq 2 => ok", "load s3fifo 9 => arg", "load s3fifo 10 => ok", "load arc 1 => ok",
		"load fifo 0 => arg", "load lru -5 => arg", "load clock 1048577 => arg", "load fifo 1048576 => ok", "load arc 1048576 => ok", "load s3 10 => word", "load 2q 10 => word", "load s3-fifo 10 => word")
	// The capacities are the kind's: each queue holds as many.
	wantRun(t, "load lru 3 => ok", "access 1 2 3 1 4 => - - - + -,2", "load fifo 3 => ok", "access 1 2 3 1 4 => - - - + -,1", "load clock 2 => ok", "access 1 2 1 3 => - - + -,2", "state => ok [3/0 1/0]",
		"load twoq 4 => ok", "access 1 2 3 4 5 1 6 => - - - - -,1 -,2 -,3", "state => ok [6 5 4] [3 2] [1]",
		"load s3fifo 10 => ok", "loop 10 10 => ok 0 0", "access 0 0 10 => + + -,1", "access 1 => -,2", "state => ok [10/0 9/0 8/0 7/0 6/0 5/0 4/0 3/0] [1/0 0/0] [2/0] 1",
		"load arc 2 => ok", "access 1 2 1 3 2 1 => - - + -,2 -,1 -,3", "state => ok [] [1 2] [3] [] 0 1")
}

// A new engine has nothing of the elder one, which stays when there is a fault.
func TestP2105Stays(t *testing.T) {
	const fifo = "policy p { queue q resident; on miss { if full(q) { evict q back; } insert q front; } }"
	wantRun(t, "load lru 2 => ok", "access 1 2 1 => - - +", "load arc 0 => arg", "state => ok [1 2]", "load lru x => word", "stats => ok 1 2 0 0",
		loading(fifo, 2, 3)+" => caps 1 1", "state => ok [1 2]", loading(fifo+"}", 2, 2)+fmt.Sprint(" => token 1 ", len(fifo)+1), "state => ok [1 2]", "text p 1 => token 1 1", "print p => token 1 1", "stats => ok 1 2 0 0",
		loading(fifo, 2, 2)+" => ok", "state => ok []", "stats => ok 0 0 0 0", "access 1 2 1 3 => - - + -,1", "load lru 2 => ok", "state => ok []", "stats => ok 0 0 0 0")
}

// Faults of each layer, at their places, by line and column.
func TestP2105Text(t *testing.T) {
	const fifo = "policy p {\n\tqueue q resident;\n\ton miss {\n\t\tif full(q) {\n\t\t\tevict q back;\n\t\t}\n\t\tinsert q front;\n\t}\n}\n"
	change := func(was, now string) string { return strings.Replace(fifo, was, now, 1) }
	wantRun(t,
		loading(fifo, 2, 2)+" => ok", loading(fifo, 1, 1)+" => ok", loading(fifo, 1<<20, 1<<20)+" => ok", loading("policy p { }", 1)+" => ok",
		loading(fifo, 2)+" => caps 1 1", loading(fifo, 2, 2, 2)+" => caps 1 1", loading(fifo, 0, 1)+" => caps 1 1", loading(fifo, -1, 1)+" => caps 1 1", loading(fifo, 999999999999999, 1)+" => caps 1 1", loading(fifo, 5, -999999999999999)+" => caps 1 1",
		loading(change("full", "@"), 2, 2)+" => byte 4 6", loading("# é\n\té@", 2)+" => byte 2 2", loading(change("p {", strings.Repeat("p", 65)+" {"), 2, 2)+" => name 1 8",
		loading(change("full(q)", "1073741825 == 1"), 2, 2)+" => number 4 6", loading("", 1)+" => token 1 1", loading("policy p {\n", 1)+" => token 2 1", loading(change("evict", "evic"), 2, 2)+" => token 5 4",
		loading(change("full(q)", strings.Repeat("(", 62)+"full(q)"+strings.Repeat(")", 62)), 2, 2)+" => nest 4 72", loading(change("on miss", "queue q ghost; on miss"), 2, 2)+" => twice 3 2",
		loading(change("evict q", "evict r"), 2, 2)+" => unknown 5 4", loading(change("queue q resident;", "queue q resident; var v = 0 in 0 .. 1;")+"# é", 2, 2)+" => ok",
		loading(change("full(q)", "q == 1"), 2, 2)+" => other 4 6", loading(change("full(q)", "1"), 2, 2)+" => type 4 6", loading(change("on miss", "require total == 0; on miss"), 2, 2)+" => const 3 10",
		loading(change("on miss", "tag t in 0; on miss"), 2, 2)+" => range 3 2", loading(change("on miss", "require size > 4; on miss"), 4, 4)+" => require 3 2", loading(change("on miss", "require size > 4; on miss"), 5, 4)+" => ok",
		loading(change("resident", "ghost"), 2, 2)+" => kind 5 4", loading(change("full", "empty"), 2, 2)+" => empty 5 4", loading(change("full(q)", "total == 9"), 2, 2)+" => full 7 3",
		loading(change("insert", "move"), 2, 2)+" => where 7 3", loading(change("\t\tinsert", "\t\tloop 2 while !full(q) { insert q back; } insert"), 2, 2)+" => loop 7 27",
		loading(change("\t\tinsert", strings.Repeat("loop 4194304 while true { ", 4)+strings.Repeat("}", 4)+"insert"), 2, 2)+" => cost 3 2",
		"stats => ok 0 0 0 0")
}

func TestP2105Print(t *testing.T) {
	wantRun(t, `print "policy p{queue q ghost;}" => ok "policy p {\n\tqueue q ghost;\n}\n"`, `print "policy p{" => token 1 10`, `print "policy p {\n\té" => byte 2 2`, `print "" => token 1 1`,
		// Only the grammar is asked.
		`print "policy p{on miss{insert q front;}}" => ok "policy p {\n\ton miss {\n\t\tinsert q front;\n\t}\n}\n"`,
		// It would have too many bytes.
		"print \"policy p{on miss"+strings.Repeat("{", 62)+strings.Repeat("{}", 10000)+strings.Repeat("}", 63)+"\" => long",
		"stats => none")
}

func TestP2105Source(t *testing.T) {
	wantRun(t, `source fifo => ok "policy fifo {\n\tqueue q resident;\n\ton miss {\n\t\tif full(q) {\n\t\t\tevict q back;\n\t\t}\n\t\tinsert q front;\n\t}\n}\n"`)
	for kind := range api.LCount {
		name, _ := model.Name(kind)
		text, _ := model.Source(kind)
		quoted := lab.Quote([]byte(text))
		wantRun(t, "source "+name+" => ok "+quoted, "print "+quoted+" => ok "+quoted)
	}
}

func TestP2105Curve(t *testing.T) {
	for _, n := range [][4]int{{1, 3, 1, 2}, {0, 0, 1, 1}, {-1, 50, 5, 7}, {999999999999999, 200, 30, 40}, {-999999999999999, 30, 10, 1}, {5, 10, api.MaxKeys, 3}} {
		curve, _ := lab.Curve(lab.Distances(zipf(t, uint64(n[0]), n[1], n[2])), n[3])
		wantRun(t, fmt.Sprintf("curve %s => ok %s", list(n[:]), list(curve)))
	}
	wantRun(t, "curve 1 3 1 2 => ok 2 2", "curve 1 0 1 3 => ok 0 0 0", "curve 1 3 1 0 => arg", "curve 1 3 1 1048577 => arg", "curve 1 3 0 2 => arg", "curve 1 -1 1 2 => arg", "curve 1 4194305 1 2 => arg", "curve 1 3 4194305 2 => arg", "curve 1 -1 0 -1 => arg", "stats => none")
}

const gate = "policy gate { queue a resident; queue g ghost; tag t in 9; tag u in 3; var v = -3 in -5 .. 5; var w = 2 in 0 .. 3; on hit a { mark x t = t(x) + 4; set v = v + 1; } on ghost g { if full(a) { evict a back; } move a back; mark x u = 7; } on miss { if full(a) { if full(g) { drop g back; } evict a back to g front; } insert a front; set w = 0; } }"

func TestP2105Engine(t *testing.T) {
	wantRun(t, loading(gate, 3, 2, 2)+" => ok", "state => ok [] [] -3 2", "access 7 8 7 => - - +", "state => ok [8/0/0 7/4/0] [] -2 0", "access 9 10 11 => -,7 -,8 -,9", "state => ok [11/0/0 10/0/0] [9/0/0 8/0/0] -2 0",
		"remove 8 => ghost", "remove 8 => none", "remove 11 => resident", "access 9 9 9 9 => - + + +", "state => ok [10/0/0 9/9/3] [] 1 0", "stats => ok 4 6 3 2", "remove 77 => none", "stats => ok 4 6 3 2",
		"text \"policy p { }\" 4 => ok", "state => ok", "access 1 1 => - -", "stats => ok 0 2 0 0", "remove 1 => none", "size => ok 6 0", `code => ok ""`,
		"text \"policy p { queue q ghost; on miss { if full(q) { drop q front; } insert q back; forget; } }\" 4 4 => ok", "access 5 6 => - -", "state => ok []")
	// Numbers of more digits.
	wantRun(t, "text \"policy p { queue q resident; tag t in 255; var v = -1073741824 in -1073741824 .. 1073741824; on hit q { mark x t = t(x) + 100; set v = 1073741824 - v; } on miss { if !full(q) { insert q back; } } }\" 30 20 => ok",
		"state => ok [] -1073741824", "access 1000 2000 1000 2000 2000 3000 => - - + + + -", "state => ok [1000/100 2000/200 3000/0] 1073741824", "access 2000 => +", "state => ok [1000/100 2000/255 3000/0] 0")
	// One that tells more keys at once.
	wantRun(t, "text \"policy p { queue q resident; on miss { if full(q) { evict q back; evict q front; } insert q front; } }\" 3 3 => ok", "access 1 2 18446744073709551615 4 1 => - - - -,1,18446744073709551615 -", "state => ok [1 4 2]", "stats => ok 0 5 2 0")
}

func TestP2105Code(t *testing.T) {
	wantRun(t, "load lru 2 => ok",
		`code => ok "on q0:\n0: move q0 front\n1: end\nmiss:\n2: len q0\n3: num 2\n4: eq\n5: else @7\n6: evict q0 back\n7: insert q0 front\n8: end\n"`,
		"size => ok 26 9", "access 1 2 3 => - - -,1", "size => ok 26 9")
}

func TestP2105Workloads(t *testing.T) {
	wantRun(t, "load fifo 3 => ok", "loop 9 4 => ok 0 6", "loop 4 2 => ok 3 1", "stats => ok 3 10 7 0", "uniform 1 0 5 => ok 0 0", "stats => ok 3 10 7 0",
		"uniform 1 -1 5 => arg", "uniform 1 1 0 => arg", "zipf 1 -1 5 => arg", "zipf 1 5 4194305 => arg", "loop 4194305 1 => arg", "loop -1 1 => arg", "loop 1 0 => arg", "stats => ok 3 10 7 0")
	for _, n := range [][3]int{{0, 500, 9}, {-1, 500, 12}, {999999999999999, 300, 40}, {-999999999999999, 300, 7}} {
		for name, keys := range map[string][]uint64{"zipf": zipf(t, uint64(n[0]), n[1], n[2]), "uniform": uniform(t, uint64(n[0]), n[1], n[2]), "loop": loop(t, n[1], n[2])} {
			args := n[:]
			if name == "loop" {
				args = n[1:]
			}
			cache, _ := model.New(api.LArc, 6)
			hits, gone := 0, 0
			for _, key := range keys {
				hit, evicted := cache.Access(key)
				if gone += len(evicted); hit {
					hits++
				}
			}
			wantRun(t, "load arc 6 => ok", fmt.Sprintf("%s %s => ok %d %d", name, list(args), hits, gone), fmt.Sprintf("stats => ok %d %d %d 0", hits, len(keys)-hits, gone))
			// As if each were asked for by itself.
			script := "load arc 6\n" + name + " " + list(args) + "\nstate\nload arc 6\naccess " + list(keys) + "\nstate"
			if got := answers(t, script); got[2] != got[5] {
				t.Errorf("%s %s: %s; one by one: %s", name, list(args), got[2], got[5])
			}
		}
	}
}

// deep is a text of many tabs, whose print is that much longer: some doings far in, some not, a name of so many bytes.
func deep(far, near, name int) string {
	return "policy " + strings.Repeat("n", name) + "{on miss{" + strings.Repeat("pass;", near) + strings.Repeat("{", 60) + strings.Repeat("pass;", far) + strings.Repeat("}", 62)
}

// printed tells how long the answer to `print` of a text must be.
func printed(t *testing.T, text string) int {
	t.Helper()
	rows, _, fault := gram.Parse([]byte(text))
	whole, err := show.Print(rows)
	if fault != (api.Fault{}) || err != api.OK {
		t.Fatal(fault, err)
	}
	return len("ok ") + len(lab.Quote([]byte(whole)))
}

func TestP2105MaxAnswer(t *testing.T) {
	const most = api.MaxAnswer
	far := (most - printed(t, deep(0, 0, 1))) / (printed(t, deep(1, 0, 1)) - printed(t, deep(0, 0, 1)))
	left := most - printed(t, deep(far, 0, 1))
	near := left / (printed(t, deep(0, 1, 1)) - printed(t, deep(0, 0, 1)))
	name := 1 + most - printed(t, deep(far, near, 1))
	for over := -1; over <= 1; over++ {
		text := deep(far, near, name+over)
		if got := printed(t, text); got != most+over {
			t.Fatalf("%d bytes; want %d", got, most+over)
		}
		got := answers(t, "stats\nprint "+text[:7]+"\nprint \""+text+"\"\nstats")
		if len(got) != 4 || got[0] != "none" || got[3] != "none" {
			t.Fatalf("%d answers", len(got))
		}
		if whole := got[2]; over <= 0 && len(whole) != most+over || over > 0 && whole != "long" {
			t.Errorf("%d bytes: %d, %.50s", most+over, len(whole), whole)
		}
	}
}

// An answer that is too long hides what was done, and undoes nothing.
func TestP2105LongAnswer(t *testing.T) {
	const text = "policy p { queue q resident; on miss { if full(q) { loop cap(q) while !empty(q) { evict q back; } } if !full(q) { insert q front; } } }"
	evicted := "-"
	for key := range 30000 {
		evicted += fmt.Sprint(",", key)
	}
	if len(evicted) <= api.MaxAnswer {
		t.Fatal(len(evicted))
	}
	wantRun(t, loading(text, 30000, 30000)+" => ok", "loop 30000 30000 => ok 0 0", "state => long", "stats => ok 0 30000 0 0", "access 77777 => long", "stats => ok 0 30001 30000 0", "state => ok [77777]", "access 77777 => +")
	// Just as many keys as the answer has room for, and one more.
	size, bytes := 0, 1
	for bytes < api.MaxAnswer {
		bytes += 1 + len(fmt.Sprint(size))
		size++
	}
	for _, n := range []int{size, size - 1} {
		want := "long"
		if n < size {
			want = evicted[:bytes-6]
		}
		wantRun(t, loading(text, n, n)+" => ok", fmt.Sprintf("loop %d %[1]d => ok 0 0", n), "access 77777 => "+want, "state => ok [77777]")
	}
	wantRun(t, "curve 1 0 1 65534 => ok "+strings.Repeat("0 ", 65533)+"0", "curve 1 0 1 65535 => ok "+strings.Repeat("0 ", 65534)+"0", "curve 1 0 1 65536 => long", "curve 1 0 1 1048576 => long")
}

// Nothing is left of one Run in the next.
func TestP2105Apart(t *testing.T) {
	script := "stats\nload lru 2\naccess 1 2 3\nstate\nstats"
	want := "none\nok\n- - -,1\nok [3 2]\nok 0 3 1 0\n"
	for range 3 {
		if got := lab.Run(script); got != want {
			t.Errorf("%s; want %s", got, want)
		}
		if got := lab.Run("stats"); got != "none\n" {
			t.Errorf("%s", got)
		}
	}
}

// As many lines as there may be, of the greatest engine, of many keys.
func TestP2105Large(t *testing.T) {
	wantRun(t, "load lru 1048576 => ok", "loop 1048576 4194304 => ok 0 0", "loop 1048577 4194304 => ok 1048576 1", "state => long", "load arc 1048576 => ok", "zipf 3 0 4194304 => ok 0 0")
	script := "load fifo 5\n" + strings.Repeat("loop 300 6\n", api.MaxLines-2) + "stats"
	got := answers(t, script)
	n := 300 * (api.MaxLines - 2)
	if want := fmt.Sprintf("ok 0 %d %d 0", n, n-5); len(got) != api.MaxLines || got[api.MaxLines-1] != want {
		t.Errorf("%d, %s; want %s", len(got), got[len(got)-1], want)
	}
	keys := strings.Repeat(" 5", 30000)
	wantRun(t, "load lru 1 => ok", "access"+keys+" => -"+strings.Repeat(" +", 29999), fmt.Sprintf("stats => ok %d 1 0 0", 29999))
}
