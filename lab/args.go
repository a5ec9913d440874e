package lab

import (
	"strconv"
	"strings"

	"winnow/api"
	"winnow/model"
)

// args are what the words behind a command's name mean: those of each sign in their order. No form has two words of KIND, or of T.
type args struct {
	numbers []int
	keys    []uint64
	kind    int
	text    string
}

// read takes words as a form has them, just as many.
func read(form string, words []string) (args, bool) {
	var in args
	for _, sign := range strings.Fields(form) {
		sign, many := strings.CutSuffix(sign, "..")
		count := 1
		if many {
			count = len(words)
		}
		if count > len(words) {
			return args{}, false
		}
		for _, word := range words[:count] {
			if !in.take(sign, word) {
				return args{}, false
			}
		}
		words = words[count:]
	}
	return in, len(words) == 0
}

// take reads a word as its sign has it, and tells whether it is such a one.
func (in *args) take(sign, word string) (right bool) {
	switch sign {
	case "n":
		var n int
		n, right = number(word)
		in.numbers = append(in.numbers, n)
	case "k":
		var key uint64
		key, right = digits(word, 20)
		in.keys = append(in.keys, key)
	case "KIND":
		in.kind, right = kindOf(word)
	default:
		in.text, right = word, true
	}
	return right
}

func number(word string) (int, bool) {
	word, below := strings.CutPrefix(word, "-")
	n, right := digits(word, 15)
	if below {
		return -int(n), right && n > 0
	}
	return int(n), right
}

// digits reads a word of one to so many digits.
func digits(word string, most int) (uint64, bool) {
	if len(word) > most {
		return 0, false
	}
	n, err := strconv.ParseUint(word, 10, 64)
	return n, err == nil
}

func kindOf(word string) (int, bool) {
	for kind := range api.LCount {
		if name, _ := model.Name(kind); name == word {
			return kind, true
		}
	}
	return 0, false
}
