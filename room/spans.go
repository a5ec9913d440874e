package room

import (
	"math"

	"winnow/api"
	"winnow/typed"
)

// none is the one form in which a span without numbers is told.
func none() api.Span { return api.Span{Lo: 1, Hi: 0} }

func isNone(s api.Span) bool { return s.Lo > s.Hi }

func only(n int) api.Span { return api.Span{Lo: n, Hi: n} }

func upTo(n int) api.Span { return api.Span{Lo: math.MinInt, Hi: n} }

func from(n int) api.Span { return api.Span{Lo: n, Hi: math.MaxInt} }

// least is the least span in which all that the list's come to is.
func least[E any](list []E, comes func(E) int) api.Span {
	all := none()
	for _, e := range list {
		all = Join(all, only(comes(e)))
	}
	return all
}

// pair is a number of the one span, and one of the other.
type pair struct{ a, b int }

// between tells the span of an operation that, with either of its two held, never turns from rising to falling or back: then what it makes of the ends bounds all else.
func between(a, b api.Span, of func(a, b int) int) api.Span {
	if isNone(a) || isNone(b) {
		return none()
	}
	a, b = clamped(a), clamped(b)
	corners := []pair{{a.Lo, b.Lo}, {a.Lo, b.Hi}, {a.Hi, b.Lo}, {a.Hi, b.Hi}}
	return least(corners, func(p pair) int { return typed.Clamp(of(p.a, p.b)) })
}

// clamped is a span by its ends: so no product of two numbers wraps round.
func clamped(s api.Span) api.Span {
	return least([]int{s.Lo, s.Hi}, typed.Clamp)
}

// without is a span without a number that is an end of it, where the other span is that number alone; else it is as it was.
func without(s, other api.Span) api.Span {
	switch {
	case other.Lo != other.Hi:
		return s
	case s.Lo == other.Lo:
		return Meet(s, from(s.Lo+1))
	case s.Hi == other.Lo:
		return Meet(s, upTo(s.Hi-1))
	}
	return s
}
