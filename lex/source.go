package lex

import "winnow/api"

// source is a text whose tokens are read, each from the place of its first byte on.
type source []byte

// kind is one of the kinds of tokens: which bytes begin one, and what reads it, to the token or to what is wrong with it.
type kind struct {
	begins func(b byte) bool
	read   func(s source, at int) (api.Token, api.Errno)
}

// kinds is the table of them; no byte begins two.
func kinds() []kind {
	return []kind{
		{beginsWord, source.word},
		{isDigit, source.number},
		{beginsSign, source.sign},
	}
}

// tokens reads them all, with the end behind them.
func (s source) tokens() ([]api.Token, api.Fault) {
	var list []api.Token
	table := kinds()
	at := 0
text:
	for {
		at = s.skip(at)
		switch {
		case at == len(s):
			break text
		case len(list) == api.MaxTokens:
			// Ahead of what the byte begins: one too many is told as that, whatever it is.
			return nil, api.Fault{Err: api.ErrMany, At: at}
		}
		for _, k := range table {
			if !k.begins(s[at]) {
				continue
			}
			token, err := k.read(s, at)
			if err != api.OK {
				return nil, api.Fault{Err: err, At: at}
			}
			list = append(list, token)
			at = token.End
			continue text
		}
		return nil, api.Fault{Err: api.ErrByte, At: at}
	}
	return append(list, api.Token{Kind: api.TokEnd, At: at, End: at}), api.Fault{}
}

// skip is the place behind the blanks and remarks that stand at one.
func (s source) skip(at int) int {
	for at < len(s) && beginsBlank(s[at]) {
		if s[at] == '#' {
			at = s.while(inRemark, at)
		} else {
			at++
		}
	}
	return at
}

// while is the place of the next byte that is not among those meant, or the text's end.
func (s source) while(meant func(b byte) bool, at int) int {
	for at < len(s) && meant(s[at]) {
		at++
	}
	return at
}

// word reads a kept word or a name.
func (s source) word(at int) (api.Token, api.Errno) {
	end := s.while(inWord, at)
	switch {
	case Is(string(s[at:end])):
		return api.Token{Kind: api.TokWord, At: at, End: end}, api.OK
	case end-at > api.MaxName:
		return api.Token{}, api.ErrName
	}
	return api.Token{Kind: api.TokName, At: at, End: end}, api.OK
}

// number reads a number.
func (s source) number(at int) (api.Token, api.Errno) {
	end := s.while(isDigit, at)
	n := 0
	for _, digit := range s[at:end] {
		n = 10*n + int(digit-'0')
		// Asked at each digit, since of a long row of them the value fits no int.
		if n > api.MaxNum {
			return api.Token{}, api.ErrNumber
		}
	}
	return api.Token{Kind: api.TokNumber, At: at, End: end, N: n}, api.OK
}

// sign reads the longest sign that stands there.
func (s source) sign(at int) (api.Token, api.Errno) {
	size := 0
	switch {
	case at+1 < len(s) && isPair(s[at], s[at+1]):
		size = 2
	case isSingle(s[at]):
		size = 1
	default:
		return api.Token{}, api.ErrByte
	}
	return api.Token{Kind: api.TokSign, At: at, End: at + size}, api.OK
}
