package impl

const WordSize = 65536

const (
	OpAdd = iota + 1
	OpSub
	OpMul
	OpDiv
	OpMod
	OpAnd
	OpOr
	OpXor
	OpShl
	OpShr
)

// shiftFactors holds 2^d for each distance d of a shift, so that both shifts
// are exact integer arithmetic.
var shiftFactors = [16]int{1, 2, 4, 8, 16, 32, 64, 128, 256, 512, 1024, 2048, 4096, 8192, 16384, 32768}

// nibbleOnes holds the number of 1 bits of each 4-bit number.
var nibbleOnes = [16]int{0, 1, 1, 2, 1, 2, 2, 3, 1, 2, 2, 3, 2, 3, 3, 4}

func isWord(n int) bool {
	return 0 <= n && n < WordSize
}

func DoOp(op int, a int, b int) (int, bool) {
	if !isWord(a) || !isWord(b) {
		return 0, false
	}
	switch op {
	case OpAdd:
		return WordOf(a + b), true
	case OpSub:
		return WordOf(a - b), true
	case OpMul:
		return WordOf(a * b), true
	case OpDiv:
		return quotient(a, b), true
	case OpMod:
		return remainder(a, b), true
	case OpAnd:
		return a & b, true
	case OpOr:
		return a | b, true
	case OpXor:
		return a ^ b, true
	case OpShl:
		return WordOf(a * shiftFactor(b)), true
	case OpShr:
		return a / shiftFactor(b), true
	}
	return 0, false
}

func quotient(a int, b int) int {
	if b == 0 {
		return 0
	}
	return a / b
}

// remainder leaves a as it is for b = 0, so that with the quotient 0 both
// still recompose a.
func remainder(a int, b int) int {
	if b == 0 {
		return a
	}
	return a % b
}

func shiftFactor(b int) int {
	return shiftFactors[b%16]
}

func SignedOf(a int) (int, bool) {
	if !isWord(a) {
		return 0, false
	}
	if a >= WordSize/2 {
		return a - WordSize, true
	}
	return a, true
}

func WordOf(n int) int {
	r := n % WordSize
	if r < 0 {
		// Go's remainder has the sign of n.
		r += WordSize
	}
	return r
}

func ExtendByte(a int) (int, bool) {
	if !isWord(a) {
		return 0, false
	}
	low := a % 256
	if low >= 128 {
		return WordOf(low - 256), true
	}
	return low, true
}

func SwapBytes(a int) (int, bool) {
	if !isWord(a) {
		return 0, false
	}
	return a%256*256 + a/256, true
}

func LessSigned(a int, b int) (bool, bool) {
	x, okA := SignedOf(a)
	y, okB := SignedOf(b)
	if !okA || !okB {
		return false, false
	}
	return x < y, true
}

func CountBits(a int) (int, bool) {
	if !isWord(a) {
		return 0, false
	}
	ones := 0
	for rest := a; rest > 0; rest /= 16 {
		ones += nibbleOnes[rest%16]
	}
	return ones, true
}

func NegateWord(a int) (int, bool) {
	if !isWord(a) {
		return 0, false
	}
	return WordOf(-a), true
}
