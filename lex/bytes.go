package lex

func beginsBlank(b byte) bool {
	switch b {
	case '\t', '\n', '\r', ' ', '#':
		return true
	}
	return false
}

func inRemark(b byte) bool { return b != '\n' }

func beginsWord(b byte) bool {
	return 'a' <= b && b <= 'z' || 'A' <= b && b <= 'Z' || b == '_'
}

func isDigit(b byte) bool { return '0' <= b && b <= '9' }

func inWord(b byte) bool { return beginsWord(b) || isDigit(b) }

// beginsSign is true of bytes too that are a sign only with another one behind them.
func beginsSign(b byte) bool {
	return isSingle(b) || b == '.' || b == '&' || b == '|'
}

// isSingle tells whether a byte is a sign by itself.
func isSingle(b byte) bool {
	switch b {
	case '{', '}', '(', ')', ';', ',', '=', '<', '>', '+', '-', '*', '/', '!':
		return true
	}
	return false
}

// isPair tells whether two bytes are a sign.
func isPair(a, b byte) bool {
	switch a {
	case '.', '&', '|':
		return b == a
	case '=', '!', '<', '>':
		return b == '='
	}
	return false
}
