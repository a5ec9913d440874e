package fold

import "winnow/api"

// reckoned is what a row is, all of whose kids are known (W3).
func reckoned(n *node) api.Act {
	a, b := first(n).of.act.A, second(n).of.act.A
	switch kind(n) {
	case api.RNeg:
		return number(-a)
	case api.RMin:
		return number(min(a, b))
	case api.RMax:
		return number(max(a, b))
	case api.RMul:
		return number(a * b)
	case api.RDiv:
		return number(divided(a, b))
	case api.RAdd:
		return number(a + b)
	case api.RSub:
		return number(a - b)
	case api.REq:
		return truth(a == b)
	case api.RLt:
		return truth(a < b)
	case api.RLe:
		return truth(a <= b)
	}
	return truth(a == 0)
}

func number(n int) api.Act {
	return api.Act{Kind: api.RNum, A: min(max(n, -api.MaxNum), api.MaxNum)}
}

func truth(is bool) api.Act {
	if is {
		return api.Act{Kind: api.RBool, A: 1}
	}
	return api.Act{Kind: api.RBool}
}

// divided is to the floor; by 0 it is 0.
func divided(a, b int) int {
	if b == 0 {
		return 0
	}
	n := a / b
	if a%b != 0 && (a < 0) != (b < 0) {
		n--
	}
	return n
}
