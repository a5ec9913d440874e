package code_test

import (
	"slices"
	"testing"

	"winnow/api"
	"winnow/code"
)

func TestP1503Faults(t *testing.T) {
	for _, row := range []struct {
		what  string
		bytes []byte
		err   api.Errno
		at    int
	}{
		{"no count of queues", []byte{87}, api.ErrCut, 1},
		{"no kind of the queue", []byte{87, 1}, api.ErrCut, 2},
		{"no count of vars", []byte{87, 0}, api.ErrCut, 2},
		{"no Init", []byte{87, 0, 1}, api.ErrCut, 3},
		{"no Lo", []byte{87, 0, 1, 0}, api.ErrCut, 4},
		{"no Hi", []byte{87, 0, 1, 0, 0}, api.ErrCut, 5},
		{"no tags", []byte{87, 0, 0}, api.ErrCut, 3},
		{"no tag", []byte{87, 0, 0, 1}, api.ErrCut, 4},
		{"no On", []byte{87, 1, 0, 0, 0}, api.ErrCut, 5},
		{"no Miss", []byte{87, 0, 0, 0}, api.ErrCut, 4},
		{"no count of instructions", []byte{87, 0, 0, 0, 0}, api.ErrCut, 5},
		{"no instruction", []byte{87, 0, 0, 0, 0, 1}, api.ErrCut, 6},
		{"no operand", []byte{87, 0, 0, 0, 0, 1, api.INum}, api.ErrCut, 7},
		{"half a number", []byte{87, 0, 0, 0, 0, 1, api.INum, 200}, api.ErrCut, 8},
		{"half an Op", []byte{87, 0, 0, 0, 0, 1, 128}, api.ErrCut, 7},
		{"eight bytes of a number", []byte{87, 128, 128, 128, 128, 128, 128, 128, 128}, api.ErrCut, 9},

		{"another first byte", []byte{0}, api.ErrTag, 0},
		{"another first byte, and more", []byte{215, 0, 0, 0, 0, 0}, api.ErrTag, 0},

		{"a kind of 2", []byte{87, 3, 0, 1, 2}, api.ErrForm, 4},
		{"a kind of 128", []byte{87, 1, 128}, api.ErrForm, 2},
		{"a kind of 129 and 0", []byte{87, 1, 129, 0}, api.ErrForm, 2},
		{"nine bytes, all with 128", []byte{87, 255, 255, 255, 255, 255, 255, 255, 255, 255}, api.ErrForm, 1},
		{"ten bytes", []byte{87, 0, 0, 0, 128, 128, 128, 128, 128, 128, 128, 128, 128, 1, 0}, api.ErrForm, 4},
		{"nine bytes, the last one 0", []byte{87, 0, 0, 0, 128, 128, 128, 128, 128, 128, 128, 128, 0, 0}, api.ErrForm, 4},
		{"17 in two bytes too many", []byte{87, 145, 128, 0}, api.ErrForm, 1},
		{"a long Init", []byte{87, 0, 1, 129, 0, 0, 0}, api.ErrForm, 3},
		{"a long Lo", []byte{87, 0, 1, 0, 129, 0, 0}, api.ErrForm, 4},
		{"a long Hi", []byte{87, 0, 1, 0, 0, 129, 0}, api.ErrForm, 5},
		{"a long tag", []byte{87, 0, 0, 1, 255, 0}, api.ErrForm, 4},
		{"a long On", []byte{87, 1, 0, 0, 0, 128, 0}, api.ErrForm, 5},
		{"a long Miss", []byte{87, 0, 0, 0, 128, 0}, api.ErrForm, 4},
		{"a long count of instructions", []byte{87, 0, 0, 0, 0, 129, 0}, api.ErrForm, 5},
		{"a long Op", []byte{87, 0, 0, 0, 0, 1, 128, 0}, api.ErrForm, 6},
		{"a long operand", []byte{87, 1, 0, 0, 0, 0, 0, 1, api.IInsert, 0, 129, 0}, api.ErrForm, 10},

		{"17 vars", []byte{87, 0, 17}, api.ErrProg, 2},
		{"5 tags", []byte{87, 0, 0, 5}, api.ErrProg, 3},
		{"2097152 queues", []byte{87, 128, 128, 128, 1}, api.ErrProg, 1},
		{"many instructions", []byte{87, 0, 0, 0, 0, 255, 255, 255, 255, 255, 255, 255, 255, 127}, api.ErrProg, 5},
		{"one instruction too many", []byte{87, 1, 1, 0, 0, 0, 0, 129, 128, 16}, api.ErrProg, 7},

		{"an Op of 42", []byte{87, 0, 0, 0, 0, 2, 0, 42}, api.ErrOp, 7},
		{"an Op of 255", []byte{87, 0, 0, 0, 0, 1, 255, 1, 0}, api.ErrOp, 6},
		{"an Op of as much as can be", []byte{87, 0, 0, 0, 0, 1, 255, 255, 255, 255, 255, 255, 255, 255, 127}, api.ErrOp, 6},
		{"an Op, ahead of what fails Check", []byte{87, 0, 0, 0, 9, 1, 42}, api.ErrOp, 6},

		{"a byte left", []byte{87, 0, 0, 0, 0, 1, 0, 87}, api.ErrTail, 7},
		{"many left", []byte{87, 0, 0, 0, 0, 0, 87, 0, 0, 0, 0, 0}, api.ErrTail, 6},
		{"one left, ahead of what fails Check", []byte{87, 0, 0, 1, 0, 0, 0, 0}, api.ErrTail, 7},

		{"a tag of 0", []byte{87, 0, 0, 1, 0, 0, 0}, api.ErrProg, 0},
		{"a tag of 256", []byte{87, 0, 0, 1, 128, 2, 0, 0}, api.ErrProg, 0},
		{"a var without range", []byte{87, 0, 1, 0, 2, 1, 0, 0, 0}, api.ErrProg, 0},
		{"a greatest too high", []byte{87, 0, 1, 0, 0, 130, 128, 128, 128, 8, 0, 0, 0}, api.ErrProg, 0},
		{"a least as low as can be", []byte{87, 0, 1, 0, 255, 255, 255, 255, 255, 255, 255, 255, 127, 0, 0, 0, 0}, api.ErrProg, 0},
		{"an event behind the code", []byte{87, 1, 0, 0, 0, 2, 0, 1, 0}, api.ErrProg, 0},
		{"a miss behind the code", []byte{87, 0, 0, 0, 2, 1, 0}, api.ErrProg, 0},
		{"a miss far behind", []byte{87, 0, 0, 0, 255, 255, 255, 255, 255, 255, 255, 255, 127, 1, 0}, api.ErrProg, 0},
		{"a bool of 2", []byte{87, 0, 0, 0, 0, 2, 0, api.IBool, 2}, api.ErrOperand, 0},
		{"no such queue", []byte{87, 1, 0, 0, 0, 0, 0, 1, api.IInsert, 1, 0}, api.ErrOperand, 0},
		{"a place behind", []byte{87, 0, 0, 0, 0, 1, api.IJump, 1}, api.ErrOperand, 0},
		{"a number too low", []byte{87, 0, 0, 0, 0, 1, api.INum, 129, 128, 128, 128, 8}, api.ErrOperand, 0},
		{"a number as high as can be", []byte{87, 0, 0, 0, 0, 1, api.INum, 254, 255, 255, 255, 255, 255, 255, 255, 127}, api.ErrOperand, 0},
	} {
		t.Run(row.what, func(t *testing.T) { faulty(t, row.bytes, row.err, row.at) })
	}
}

// decodes holds Decode of any bytes against the plain one, and Encode of what it tells against the bytes.
func decodes(t *testing.T, bytes []byte) (is bool) {
	t.Helper()
	p, fault := code.Decode(bytes)
	want, wantFault := plainDecode(bytes)
	if fault != wantFault || !sameProgram(p, want) {
		t.Fatalf("Decode of %v: %v %v; want %v %v", bytes, p, fault, want, wantFault)
	}
	if fault != (api.Fault{}) {
		return false
	}
	if b, err := code.Encode(p); err != api.OK || !slices.Equal(b, bytes) {
		t.Fatalf("Encode of Decode of %v: %v %v", bytes, b, err)
	}
	return true
}

// All rows of at most three bytes, and all of a few bytes more that are told apart.
func TestP1503AllSmall(t *testing.T) {
	decodes(t, nil)
	for a := range 256 {
		decodes(t, []byte{byte(a)})
		for b := range 256 {
			decodes(t, []byte{byte(a), byte(b)})
			decodes(t, []byte{87, byte(a), byte(b)})
		}
	}
	right := 0
	var grow func(bytes []byte, more int, of []byte)
	grow = func(bytes []byte, more int, of []byte) {
		if decodes(t, bytes) {
			right++
		}
		if more == 0 {
			return
		}
		for _, b := range of {
			grow(append(slices.Clone(bytes), b), more-1, of)
		}
	}
	grow([]byte{87}, 8, []byte{0, 1, 2, 128})
	grow([]byte{87, 0, 0, 0}, 5, []byte{0, 1, 2, 22, 24, 28, 42, 127, 128, 129})
	grow([]byte{87, 1, 1, 0, 0, 0}, 5, []byte{0, 1, 2, 4, 10, 31, 38, 128, 255})
	if right < 300 {
		t.Errorf("%d of them are programs", right)
	}
}

// All Ops of one instruction, and all first bytes of its operands.
func TestP1503AllOps(t *testing.T) {
	for op := range 256 {
		for a := range 256 {
			for operands := range 5 {
				bytes := []byte{87, 2, 0, 1, 1, 0, 0, 0, 1, 9, 0, 0, 0, 1, byte(op), byte(a), 1, 0, 1}
				decodes(t, bytes[:15+operands])
			}
		}
	}
}
