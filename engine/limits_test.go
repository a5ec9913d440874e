package engine_test

import (
	"fmt"
	"strings"
	"testing"

	"winnow/api"
	"winnow/verify"
)

// The limits: the last text that loads, and the first one that does not.
func TestT2Limits(t *testing.T) {
	one := capsOf(1)
	text := "policy p { }"
	load(t, text+strings.Repeat(" ", api.MaxSource-len(text)), one)
	load(t, strings.Repeat("\n", api.MaxSource-len(text))+text, one)
	wantFault(t, text+strings.Repeat(" ", api.MaxSource-len(text)+1), one, api.Fault{Err: api.ErrLong})
	wantFault(t, strings.Repeat("@", api.MaxSource+1), one, api.Fault{Err: api.ErrLong})

	passes := strings.Repeat("pass;", (api.MaxTokens-8)/2)
	load(t, "policy p{rule r{"+passes+"}}", one)
	wantFault(t, "policy p{rule r{"+passes+"}};", one, api.Fault{Err: api.ErrMany, At: len(passes) + 18})
	wantFault(t, "policy p{rule r{"+passes+";}}", one, api.Fault{Err: api.ErrToken, At: len(passes) + 16})

	name := strings.Repeat("n", api.MaxName)
	load(t, "policy "+name+" { }", one)
	wantFault(t, "policy "+name+"n { }", one, api.Fault{Err: api.ErrName, At: 7})

	load(t, "policy p { require 0 == "+strings.Repeat("(", 63)+"0"+strings.Repeat(")", 63)+"; }", one)
	load(t, "policy p { require 0 == "+strings.Repeat("-", 63)+"0; }", one)

	// The block of r11 has 10,237 rows, laid open (chapter 7's last example): passes make up for what is missing.
	laid := func(more int) string {
		return "policy p { rule r0 { pass; } " + doubled(12) + "on miss { call r11;" + strings.Repeat("pass;", more) + " } }"
	}
	most := api.MaxLaid - 10237 - 2
	load(t, laid(most), one)
	wantFault(t, laid(most+1), one, api.Fault{Err: api.ErrLarge, At: strings.Index(laid(0), "on")})

	// A block's 1, and of each loop 1, and its rounds times 1 and its block's.
	cost := func(n int) int { return 1 + 1 + n*(1+(1+1+1<<22*(1+(1+1+1<<22*(1+1))))) }
	n := 1
	for cost(n+1) <= api.MaxCost {
		n++
	}
	looped := func(n int) string {
		return strings.Replace("policy p { on miss { "+deep+" } }", "4194304", fmt.Sprint(n), 1)
	}
	load(t, looped(n), one)
	wantFault(t, looped(n+1), one, api.Fault{Err: api.ErrCost, At: 11})
}

// nested is a form put into itself, again and again, around a kernel.
func nested(n int, form, kernel string) string {
	for range n {
		kernel = strings.Replace(form, "_", kernel, 1)
	}
	return kernel
}

// What the five take is built, however near to the limits it is: levels, operands, rows.
func TestP2006Built(t *testing.T) {
	for _, body := range []string{
		"set v = " + nested(61, "v - v * min(v, _)", "v - v * v") + ";",
		"set v = " + nested(61, "v + v / (_)", "v * (total + 1)") + ";",
		"if " + nested(61, "at(q) == (_)", "v != v - v * v") + " { set v = 3; }",
		"if " + nested(60, "v < 2 && (_) || at(q) && v > len(q)", "full(q)") + " { set v = 3; }",
		"if " + nested(30, "!(_)", "empty(q) || full(q)") + " { set v = v + 1; }",
		"set v = 1 + " + strings.Repeat("-", 61) + "len(q);",
		nested(61, "if v < 9 { set v = v + 1; _ }", "set v = 1;"),
		nested(61, "if v > 1 { set v = 1; } else { _ }", "set v = v + 1;"),
		nested(12, "loop 2 while v < 9 { _ set v = v - 1; }", "set v = v + 1;"),
		strings.Repeat("if v != len(q) && full(q) || total >= size { set v = max(v, -total); } ", (api.MaxLaid-20)/16),
		strings.Repeat("if !empty(q) { evict q back; } ", (api.MaxLaid-20)/5),
		strings.Repeat("{", 62) + strings.Repeat("}", 62),
	} {
		text := "policy p { queue q resident; tag t in 1; var v = 1 in -9 .. 9; on miss { " + body + " if v > 0 { if !full(q) && total < size { insert q back; } } } }"
		c := capsOf(3, 2)
		p, u, fault := plainLoad(text, c)
		if fault != (api.Fault{}) {
			t.Errorf("%.300s: %v", text, fault)
			continue
		}
		e, m := load(t, text, c), made{text, c, p, u, nil}.meaning(t)
		for _, op := range ops(t, "1 2 1 3 4 -2 5 1 5") {
			if got, want := play(e, op), play(m, op); !same(got, want) {
				t.Fatalf("%.300s\n%v: %v; want %v", text, op, got, want)
			}
		}
	}
}

// The greatest tables that there may be.
func TestP2006Tables(t *testing.T) {
	text := "policy p { " + many(8, "queue a%d resident; ") + many(8, "queue g%d ghost; ") + many(16, "var v%d = 0 in -1073741824 .. 1073741824; ") + many(4, "tag t%d in 255; ") + many(64, "rule r%d { set v15 = v15 + 1; } ")
	text += "on hit a7 { mark x t3 = 300; call r63; evict a7 back to g7 front; } on ghost g7 { forget; } on miss { if !full(a7) && total < size { insert a7 front; } } }"
	c := api.Caps{Size: api.MaxCap, Queues: make([]int, 16)}
	for q := range c.Queues {
		c.Queues[q] = api.MaxCap / 4
	}
	wantFault(t, text, c, api.Fault{Err: api.ErrFull, At: strings.Index(text, "evict")})
	text = strings.Replace(text, "evict a7 back to", "if full(g7) { drop g7 back; } evict a7 back to", 1)
	e := load(t, text, c)
	if got := tell(e.Play(ops(t, "1 1 2 1"))); got != "miss, hit 1, miss, miss" {
		t.Error(got)
	}
	s := e.State()
	if len(s.Queues) != 16 || len(s.Queues[7]) != 1 || len(s.Queues[15]) != 0 || len(s.Vars) != 16 || s.Vars[15] != 1 || len(s.Queues[7][0].Tags) != 4 {
		t.Errorf("%v", s)
	}
}

// As many steps as may be, none of them folded away: the fuel is not too much then.
func TestP2006Fuel(t *testing.T) {
	guard := "full(q) && v != total || v >= len(q)"
	text := func(n int) string {
		return "policy p { queue q resident; var v = 0 in 0 .. 1; on hit q { " + nested(2, fmt.Sprintf("loop 4194304 while %s { _ }", guard), fmt.Sprintf("loop %d while %s { if full(q) { } else { set v = -v; } }", n, guard)) + " } }"
	}
	c := capsOf(3, 2)
	// The greatest number of rounds that is taken lies from low on, below high.
	low, high := 1, api.MaxLoop
	for low+1 < high {
		if n := (low + high) / 2; plainTakes(text(n), c) {
			low = n
		} else {
			high = n
		}
	}
	e := load(t, text(low), c)
	costs, fault := verify.Run(e.Program())
	if fault != (api.Fault{}) || costs.On[0] <= api.MaxCost || costs.On[0] > api.MaxFuel {
		t.Errorf("%d rounds: %v, %v", low, costs, fault)
	}
	wantFault(t, text(low+1), c, api.Fault{Err: api.ErrCost, At: strings.Index(text(1), "on hit")})
}

func plainTakes(text string, c api.Caps) bool {
	_, _, fault := plainLoad(text, c)
	return fault == (api.Fault{})
}
