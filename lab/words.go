package lab

import "strings"

const hexDigits = "0123456789abcdef"

// liner goes through a line from the left.
type liner struct {
	line string
	at   int
}

// more goes on to where the next word begins, and tells whether there is one.
func (l *liner) more() bool {
	for !l.ended() && isBlank(l.line[l.at]) {
		l.at++
	}
	return !l.ended() && l.line[l.at] != '#'
}

func (l *liner) ended() bool { return l.at == len(l.line) }

func isBlank(b byte) bool { return b == ' ' || b == '\t' }

// word tells the one that begins there, and whether it is one.
func (l *liner) word() (string, bool) {
	if l.line[l.at] == '"' {
		l.at++
		return l.quoted()
	}
	return l.plain()
}

func (l *liner) plain() (string, bool) {
	from := l.at
	for !l.ended() && !isBlank(l.line[l.at]) && l.line[l.at] != '"' {
		l.at++
	}
	// A piece of the line would hold all of it fast.
	return strings.Clone(l.line[from:l.at]), l.parted()
}

// quoted goes on behind the first sign of a quoted word.
func (l *liner) quoted() (string, bool) {
	var word []byte
	for !l.ended() {
		b := l.line[l.at]
		l.at++
		if b == '"' {
			return string(word), l.parted()
		}
		if b == '\\' {
			var right bool
			if b, right = l.meant(); !right {
				return "", false
			}
		}
		word = append(word, b)
	}
	return "", false
}

// parted tells whether a word may end there.
func (l *liner) parted() bool { return l.ended() || isBlank(l.line[l.at]) }

// meant is the byte that is meant by what stands behind a `\`.
func (l *liner) meant() (byte, bool) {
	if l.ended() {
		return 0, false
	}
	b := l.line[l.at]
	l.at++
	switch b {
	case '\\', '"':
		return b, true
	case 'n':
		return '\n', true
	case 't':
		return '\t', true
	case 'x':
		return l.hex()
	}
	return 0, false
}

// hex is the byte of the two digits that stand there.
func (l *liner) hex() (byte, bool) {
	if len(l.line)-l.at < 2 {
		return 0, false
	}
	high := strings.IndexByte(hexDigits, l.line[l.at])
	low := strings.IndexByte(hexDigits, l.line[l.at+1])
	if high < 0 || low < 0 {
		return 0, false
	}
	l.at += 2
	return byte(16*high + low), true
}

// appendQuoted puts a byte behind a text, as it stands in a quoted word.
func appendQuoted(text []byte, b byte) []byte {
	switch {
	case b == '\\' || b == '"':
		return append(text, '\\', b)
	case b == '\n':
		return append(text, '\\', 'n')
	case b == '\t':
		return append(text, '\\', 't')
	case b < 32 || b > 126:
		return append(text, '\\', 'x', hexDigits[b>>4], hexDigits[b&15])
	}
	return append(text, b)
}
