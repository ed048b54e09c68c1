package impl

import "strings"

// Ops.
const (
	OpNop      = 0
	OpPush     = 1
	OpNull     = 2
	OpLoad     = 3
	OpStore    = 4
	OpRefLoad  = 5
	OpRefStore = 6
	OpPop      = 7
	OpDup      = 8
	OpSwap     = 9
	OpAdd      = 10
	OpSub      = 11
	OpMul      = 12
	OpDiv      = 13
	OpIfZero   = 14
	OpIfNeg    = 15
	OpIfNull   = 16
	OpIfSame   = 17
	OpGo       = 18
	OpNew      = 19
	OpGet      = 20
	OpPut      = 21
	OpGetAll   = 22
	OpPutAll   = 23
	OpVirtual  = 24
	OpSpecial  = 25
	OpStatic   = 26
	OpFace     = 27
	OpCast     = 28
	OpIs       = 29
	OpGiveInt  = 30
	OpGiveRef  = 31
	OpGive     = 32
	OpThrow    = 33
	OpPrint    = 34
)

// Ins is an op, where it begins, and what stands behind it.
type Ins struct {
	At  int
	Op  int
	Num int
}

// OpsGet reads ops.
func OpsGet(s string) ([]Ins, bool) {
	if len(s) < 1 || len(s) > CodeMax {
		return nil, false
	}
	var list []Ins
	for at := 0; at < len(s); {
		op := int(s[at])
		if !isOp(op) || opBehind[op] > len(s)-at-1 {
			return nil, false
		}
		next := at + 1 + opBehind[op]
		list = append(list, Ins{At: at, Op: op, Num: numberOf(op, s[at+1:next])})
		at = next
	}
	return list, true
}

// OpsPut writes ops.
func OpsPut(list []Ins) string {
	var b strings.Builder
	for _, in := range list {
		if in.At != b.Len() || !isOp(in.Op) || !numberFits(in.Op, in.Num) {
			return ""
		}
		b.WriteByte(byte(in.Op))
		for left := opBehind[in.Op]; left > 0; left-- {
			b.WriteByte(byte(in.Num >> (8 * (left - 1))))
		}
		if b.Len() > CodeMax {
			return ""
		}
	}
	return b.String()
}

// opBehind is how many bytes stand behind each op.
var opBehind = [OpPrint + 1]int{
	OpNop:      0,
	OpPush:     2,
	OpNull:     0,
	OpLoad:     1,
	OpStore:    1,
	OpRefLoad:  1,
	OpRefStore: 1,
	OpPop:      0,
	OpDup:      0,
	OpSwap:     0,
	OpAdd:      0,
	OpSub:      0,
	OpMul:      0,
	OpDiv:      0,
	OpIfZero:   2,
	OpIfNeg:    2,
	OpIfNull:   2,
	OpIfSame:   2,
	OpGo:       2,
	OpNew:      2,
	OpGet:      2,
	OpPut:      2,
	OpGetAll:   2,
	OpPutAll:   2,
	OpVirtual:  2,
	OpSpecial:  2,
	OpStatic:   2,
	OpFace:     2,
	OpCast:     2,
	OpIs:       2,
	OpGiveInt:  0,
	OpGiveRef:  0,
	OpGive:     0,
	OpThrow:    0,
	OpPrint:    0,
}

func isOp(op int) bool {
	return op >= 0 && op < len(opBehind)
}

// namesPlace says whether the place of an op stands behind an op.
func namesPlace(op int) bool {
	return op >= OpIfZero && op <= OpGo
}

// placeBehind is the place behind an op.
func placeBehind(in Ins) int {
	return in.At + 1 + opBehind[in.Op]
}

// numberOf is the number that bytes behind an op are; OpPush alone has numbers below 0.
func numberOf(op int, behind string) int {
	n := 0
	for i := range len(behind) {
		n = n*256 + int(behind[i])
	}
	if op == OpPush {
		return int(int16(n))
	}
	return n
}

func numberFits(op int, n int) bool {
	if op == OpPush {
		return n >= -32768 && n <= 32767
	}
	return n >= 0 && n < 1<<(8*opBehind[op])
}
