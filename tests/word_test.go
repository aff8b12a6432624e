package tests

import (
	"math"
	"math/big"
	"math/bits"
	"testing"

	"loop.example/g00605/impl"
)

// edgeWords are the words at which carries, signs and bytes change.
var edgeWords = []int{
	0, 1, 2, 3, 7, 14, 15, 16, 17, 31, 32, 33, 127, 128, 129, 254, 255, 256, 257,
	4660, 21845, 32766, 32767, 32768, 32769, 43690, 65279, 65280, 65534, 65535,
}

// nonWords are integers on both sides of the words, up to the extremes of int.
var nonWords = []int{
	-1, -2, -255, -32768, -65535, -65536, -65537, 65536, 65537, 98304, 131072,
	math.MinInt32, math.MaxInt32, math.MinInt, math.MinInt + 1, math.MaxInt - 1, math.MaxInt,
}

var allOps = []int{
	impl.OpAdd, impl.OpSub, impl.OpMul, impl.OpDiv, impl.OpMod,
	impl.OpAnd, impl.OpOr, impl.OpXor, impl.OpShl, impl.OpShr,
}

// eachPair visits all pairs of edge words, and for every word some pairs with
// partners that wander over the whole range.
func eachPair(visit func(a, b int)) {
	for _, a := range edgeWords {
		for _, b := range edgeWords {
			visit(a, b)
		}
	}
	for a := 0; a < 65536; a++ {
		visit(a, a)
		visit(a, a*40503%65536)
		visit(a*30011%65536, a%257)
	}
}

// wantOp computes an operation with Go's own 16-bit type, which wraps around.
func wantOp(op, a, b int) int {
	x, y := uint16(a), uint16(b)
	switch op {
	case impl.OpAdd:
		return int(x + y)
	case impl.OpSub:
		return int(x - y)
	case impl.OpMul:
		return int(x * y)
	case impl.OpDiv:
		if y == 0 {
			return 0
		}
		return int(x / y)
	case impl.OpMod:
		if y == 0 {
			return a
		}
		return int(x % y)
	case impl.OpAnd:
		return int(x & y)
	case impl.OpOr:
		return int(x | y)
	case impl.OpXor:
		return int(x ^ y)
	case impl.OpShl:
		return int(x << (y % 16))
	case impl.OpShr:
		return int(x >> (y % 16))
	}
	return -1
}

func mustDo(t *testing.T, op, a, b int) int {
	t.Helper()
	n, ok := impl.DoOp(op, a, b)
	if !ok || n < 0 || n >= impl.WordSize {
		t.Fatalf("DoOp(%d, %d, %d) = %d, %t: not a word and true", op, a, b, n, ok)
	}
	return n
}

func mustSigned(t *testing.T, a int) int {
	t.Helper()
	n, ok := impl.SignedOf(a)
	if !ok {
		t.Fatalf("SignedOf(%d) returns false", a)
	}
	return n
}

func TestWordConstants(t *testing.T) {
	if impl.WordSize != 65536 {
		t.Errorf("WordSize = %d", impl.WordSize)
	}
	for i, op := range allOps {
		if op != i+1 {
			t.Errorf("operation number %d is %d", i+1, op)
		}
	}
}

func TestDoOpValues(t *testing.T) {
	cases := []struct{ op, a, b, want int }{
		{impl.OpAdd, 0, 0, 0},
		{impl.OpAdd, 255, 1, 256},
		{impl.OpAdd, 32767, 1, 32768},
		{impl.OpAdd, 65535, 1, 0},
		{impl.OpAdd, 65535, 65535, 65534},
		{impl.OpSub, 3, 5, 65534},
		{impl.OpSub, 0, 65535, 1},
		{impl.OpSub, 32768, 32768, 0},
		{impl.OpMul, 256, 256, 0},
		{impl.OpMul, 255, 257, 65535},
		{impl.OpMul, 65535, 65535, 1},
		{impl.OpMul, 32768, 3, 32768},
		{impl.OpDiv, 7, 2, 3},
		{impl.OpDiv, 65535, 256, 255},
		{impl.OpDiv, 1, 65535, 0},
		{impl.OpDiv, 7, 0, 0},
		{impl.OpDiv, 0, 0, 0},
		{impl.OpDiv, 65535, 0, 0},
		{impl.OpMod, 7, 2, 1},
		{impl.OpMod, 65535, 256, 255},
		{impl.OpMod, 1, 65535, 1},
		{impl.OpMod, 7, 0, 7},
		{impl.OpMod, 0, 0, 0},
		{impl.OpMod, 65535, 0, 65535},
		{impl.OpAnd, 65280, 4660, 4608},
		{impl.OpOr, 65280, 52, 65332},
		{impl.OpXor, 65535, 4660, 60875},
		{impl.OpShl, 1, 0, 1},
		{impl.OpShl, 1, 15, 32768},
		{impl.OpShl, 3, 15, 32768},
		{impl.OpShl, 1, 16, 1},
		{impl.OpShl, 1, 17, 2},
		{impl.OpShl, 1, 65535, 32768},
		{impl.OpShl, 65535, 8, 65280},
		{impl.OpShr, 65535, 0, 65535},
		{impl.OpShr, 65535, 15, 1},
		{impl.OpShr, 32767, 15, 0},
		{impl.OpShr, 65535, 16, 65535},
		{impl.OpShr, 65535, 20, 4095},
		{impl.OpShr, 32768, 65535, 1},
	}
	for _, c := range cases {
		if n, ok := impl.DoOp(c.op, c.a, c.b); n != c.want || !ok {
			t.Errorf("DoOp(%d, %d, %d) = %d, %t, want %d, true", c.op, c.a, c.b, n, ok, c.want)
		}
	}
}

func TestDoOpAgainstUint16(t *testing.T) {
	for _, op := range allOps {
		eachPair(func(a, b int) {
			if n, want := mustDo(t, op, a, b), wantOp(op, a, b); n != want {
				t.Fatalf("DoOp(%d, %d, %d) = %d, want %d", op, a, b, n, want)
			}
		})
	}
}

func TestShiftByEveryDistance(t *testing.T) {
	for _, a := range edgeWords {
		for b := 0; b < impl.WordSize; b++ {
			factor := 1 << (b % 16)
			if n := mustDo(t, impl.OpShl, a, b); n != a*factor%impl.WordSize {
				t.Fatalf("DoOp(OpShl, %d, %d) = %d", a, b, n)
			}
			if n := mustDo(t, impl.OpShr, a, b); n != a/factor {
				t.Fatalf("DoOp(OpShr, %d, %d) = %d", a, b, n)
			}
		}
	}
}

// Promise 1, first part.
func TestDifferenceRestoresSummand(t *testing.T) {
	eachPair(func(a, b int) {
		sum := mustDo(t, impl.OpAdd, a, b)
		if n := mustDo(t, impl.OpSub, sum, b); n != a {
			t.Fatalf("%d + %d - %d = %d", a, b, b, n)
		}
		if n := mustDo(t, impl.OpSub, sum, a); n != b {
			t.Fatalf("%d + %d - %d = %d", a, b, a, n)
		}
	})
}

// Promise 1, second part; a divisor 0 recomposes too, from the quotient 0.
func TestQuotientAndRemainderRecompose(t *testing.T) {
	eachPair(func(a, b int) {
		q := mustDo(t, impl.OpDiv, a, b)
		r := mustDo(t, impl.OpMod, a, b)
		if q*b+r != a {
			t.Fatalf("%d / %d = %d, remainder %d", a, b, q, r)
		}
		if b > 0 && r >= b {
			t.Fatalf("the remainder %d of %d / %d is too large", r, a, b)
		}
		product := mustDo(t, impl.OpMul, q, b)
		if n := mustDo(t, impl.OpAdd, product, r); n != a {
			t.Fatalf("%d / %d recomposes to %d", a, b, n)
		}
	})
}

// Promise 1, third part.
func TestSignedOrder(t *testing.T) {
	eachPair(func(a, b int) {
		less, ok := impl.LessSigned(a, b)
		if want := int16(uint16(a)) < int16(uint16(b)); less != want || !ok {
			t.Fatalf("LessSigned(%d, %d) = %t, %t, want %t, true", a, b, less, ok, want)
		}
		if want := mustSigned(t, a) < mustSigned(t, b); less != want {
			t.Fatalf("LessSigned(%d, %d) = %t, SignedOf says %t", a, b, less, want)
		}
	})
}

func TestUnaryOnEveryWord(t *testing.T) {
	for a := 0; a < impl.WordSize; a++ {
		w := uint16(a)
		if n := mustSigned(t, a); n != int(int16(w)) {
			t.Fatalf("SignedOf(%d) = %d", a, n)
		}
		if n, ok := impl.ExtendByte(a); n != int(uint16(int8(w))) || !ok {
			t.Fatalf("ExtendByte(%d) = %d, %t", a, n, ok)
		}
		if n, ok := impl.SwapBytes(a); n != int(bits.ReverseBytes16(w)) || !ok {
			t.Fatalf("SwapBytes(%d) = %d, %t", a, n, ok)
		}
		if n, ok := impl.CountBits(a); n != bits.OnesCount16(w) || !ok {
			t.Fatalf("CountBits(%d) = %d, %t", a, n, ok)
		}
		if n, ok := impl.NegateWord(a); n != int(-w) || !ok {
			t.Fatalf("NegateWord(%d) = %d, %t", a, n, ok)
		}
		if n := impl.WordOf(a); n != a {
			t.Fatalf("WordOf(%d) = %d", a, n)
		}
		if n := impl.WordOf(mustSigned(t, a)); n != a {
			t.Fatalf("WordOf(SignedOf(%d)) = %d", a, n)
		}
	}
}

func TestUnaryValues(t *testing.T) {
	cases := []struct {
		name    string
		call    func(int) (int, bool)
		a, want int
	}{
		{"SignedOf", impl.SignedOf, 0, 0},
		{"SignedOf", impl.SignedOf, 32767, 32767},
		{"SignedOf", impl.SignedOf, 32768, -32768},
		{"SignedOf", impl.SignedOf, 65535, -1},
		{"ExtendByte", impl.ExtendByte, 127, 127},
		{"ExtendByte", impl.ExtendByte, 128, 65408},
		{"ExtendByte", impl.ExtendByte, 255, 65535},
		{"ExtendByte", impl.ExtendByte, 256, 0},
		{"ExtendByte", impl.ExtendByte, 65280, 0},
		{"ExtendByte", impl.ExtendByte, 4736, 65408},
		{"SwapBytes", impl.SwapBytes, 0, 0},
		{"SwapBytes", impl.SwapBytes, 255, 65280},
		{"SwapBytes", impl.SwapBytes, 256, 1},
		{"SwapBytes", impl.SwapBytes, 4660, 13330},
		{"CountBits", impl.CountBits, 0, 0},
		{"CountBits", impl.CountBits, 255, 8},
		{"CountBits", impl.CountBits, 32768, 1},
		{"CountBits", impl.CountBits, 65535, 16},
		{"NegateWord", impl.NegateWord, 0, 0},
		{"NegateWord", impl.NegateWord, 1, 65535},
		{"NegateWord", impl.NegateWord, 32768, 32768},
		{"NegateWord", impl.NegateWord, 65535, 1},
	}
	for _, c := range cases {
		if n, ok := c.call(c.a); n != c.want || !ok {
			t.Errorf("%s(%d) = %d, %t, want %d, true", c.name, c.a, n, ok, c.want)
		}
	}
}

// Promise 19: WordOf answers for every integer.
func TestWordOfEveryInteger(t *testing.T) {
	size := big.NewInt(impl.WordSize)
	check := func(n int) {
		want := new(big.Int).Mod(big.NewInt(int64(n)), size).Int64()
		if w := impl.WordOf(n); int64(w) != want {
			t.Fatalf("WordOf(%d) = %d, want %d", n, w, want)
		}
	}
	for n := -3 * impl.WordSize; n <= 3*impl.WordSize; n++ {
		check(n)
	}
	for i := 0; i < 63; i++ {
		for d := -2; d <= 2; d++ {
			check(1<<i + d)
			check(-1<<i + d)
		}
	}
	for d := 0; d < 70000; d++ {
		check(math.MinInt + d)
		check(math.MaxInt - d)
	}
}

// Promise 19: what is not a word gives the zero result, whatever the
// operation and on either side.
func TestNonWordsGiveZero(t *testing.T) {
	unary := []struct {
		name string
		call func(int) (int, bool)
	}{
		{"SignedOf", impl.SignedOf},
		{"ExtendByte", impl.ExtendByte},
		{"SwapBytes", impl.SwapBytes},
		{"CountBits", impl.CountBits},
		{"NegateWord", impl.NegateWord},
	}
	for _, x := range nonWords {
		for _, u := range unary {
			if n, ok := u.call(x); n != 0 || ok {
				t.Errorf("%s(%d) = %d, %t", u.name, x, n, ok)
			}
		}
		for _, y := range append(append([]int{}, edgeWords...), nonWords...) {
			checkPairGivesZero(t, x, y)
			checkPairGivesZero(t, y, x)
		}
	}
}

func checkPairGivesZero(t *testing.T, a, b int) {
	t.Helper()
	for _, op := range allOps {
		if n, ok := impl.DoOp(op, a, b); n != 0 || ok {
			t.Errorf("DoOp(%d, %d, %d) = %d, %t", op, a, b, n, ok)
		}
	}
	if less, ok := impl.LessSigned(a, b); less || ok {
		t.Errorf("LessSigned(%d, %d) = %t, %t", a, b, less, ok)
	}
}

// Promise 19: operations that are not in the list give the zero result.
func TestUnknownOperationsGiveZero(t *testing.T) {
	ops := []int{math.MinInt, -65535, -10, -1, 0, 11, 12, 16, 17, 26, 255, 257, 65537, 1 << 32, 1<<32 + 1, math.MaxInt}
	for _, op := range ops {
		for _, a := range edgeWords {
			for _, b := range append(append([]int{}, edgeWords...), nonWords...) {
				if n, ok := impl.DoOp(op, a, b); n != 0 || ok {
					t.Errorf("DoOp(%d, %d, %d) = %d, %t", op, a, b, n, ok)
				}
			}
		}
	}
}
