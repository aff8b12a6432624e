package tests

import (
	"math"
	"slices"
	"testing"

	"loop.example/g00605/impl"
)

// from and one keep the tables of intervals short.
func from(lo, hi int) impl.Stretch {
	return impl.Stretch{Lo: lo, Hi: hi}
}

func one(n int) impl.Stretch {
	return from(n, n)
}

var allOfThem = impl.Stretch{Lo: 0, Hi: 65535}

// wantGoodStretch goes by Go's own 16-bit type.
func wantGoodStretch(s impl.Stretch) bool {
	return s.Lo == int(uint16(s.Lo)) && s.Hi == int(uint16(s.Hi)) && s.Lo <= s.Hi
}

func wantIn(s impl.Stretch, n int) bool {
	return n >= s.Lo && n <= s.Hi
}

// wantWrap divides with a shift, which rounds down.
func wantWrap(l, h int) impl.Stretch {
	if l>>16 != h>>16 {
		return allOfThem
	}
	return from(int(uint16(l)), int(uint16(h)))
}

// wantOnes goes up through 0, 1, 3, 7 and so on.
func wantOnes(n int) int {
	least := 0
	for least < n {
		least = 2*least + 1
	}
	return least
}

// wantStretch is the chapter's table.
func wantStretch(op int, a, b impl.Stretch) impl.Stretch {
	single := b.Lo == b.Hi
	distance := b.Lo & 15
	switch op {
	case impl.OpAdd:
		return wantWrap(a.Lo+b.Lo, a.Hi+b.Hi)
	case impl.OpSub:
		return wantWrap(a.Lo-b.Hi, a.Hi-b.Lo)
	case impl.OpMul:
		return wantWrap(a.Lo*b.Lo, a.Hi*b.Hi)
	case impl.OpDiv:
		if b.Lo > 0 {
			return from(a.Lo/b.Hi, a.Hi/b.Lo)
		}
		return from(0, a.Hi)
	case impl.OpMod:
		if a.Hi < b.Lo {
			return a
		}
		if b.Lo > 0 && b.Hi <= a.Hi {
			return from(0, b.Hi-1)
		}
		return from(0, a.Hi)
	case impl.OpAnd:
		return from(0, min(a.Hi, b.Hi))
	case impl.OpOr:
		return from(max(a.Lo, b.Lo), wantOnes(max(a.Hi, b.Hi)))
	case impl.OpXor:
		return from(0, wantOnes(max(a.Hi, b.Hi)))
	case impl.OpShl:
		if single {
			return wantWrap(a.Lo<<distance, a.Hi<<distance)
		}
		return allOfThem
	}
	if single {
		return from(a.Lo>>distance, a.Hi>>distance)
	}
	return from(0, a.Hi)
}

// checkRow compares with the table and returns the interval.
func checkRow(t *testing.T, op int, a, b impl.Stretch) impl.Stretch {
	t.Helper()
	s, ok := impl.DoStretch(op, a, b)
	if want := wantStretch(op, a, b); s != want || !ok {
		t.Fatalf("DoStretch(%d, %v, %v) = %v, %t, want %v, true", op, a, b, s, ok, want)
	}
	if !impl.GoodStretch(s) {
		t.Fatalf("DoStretch(%d, %v, %v) = %v: not valid", op, a, b, s)
	}
	return s
}

func wordsOf(s impl.Stretch) []int {
	var l []int
	for n := s.Lo; n <= s.Hi; n++ {
		l = append(l, n)
	}
	return l
}

// someWords returns all words of a small interval; of a large one the ends,
// their neighbours and some words that are drawn.
func someWords(g *lcg, s impl.Stretch) []int {
	size := s.Hi - s.Lo + 1
	if size <= 24 {
		return wordsOf(s)
	}
	l := []int{s.Lo, s.Lo + 1, s.Hi - 1, s.Hi}
	for range 8 {
		l = append(l, s.Lo+g.below(size))
	}
	return l
}

// checkOperation is promise 9 for one operation on two intervals and those
// words of them.
func checkOperation(t *testing.T, op int, a, b impl.Stretch, xs, ys []int) {
	t.Helper()
	s := checkRow(t, op, a, b)
	for _, x := range xs {
		for _, y := range ys {
			if n := mustDo(t, op, x, y); !wantIn(s, n) {
				t.Fatalf("DoStretch(%d, %v, %v) = %v: DoOp(%d, %d, %d) = %d is not in it", op, a, b, s, op, x, y, n)
			}
		}
	}
}

// checkOperations is checkOperation for all operations and both orders.
func checkOperations(t *testing.T, a, b impl.Stretch, xs, ys []int) {
	t.Helper()
	for _, op := range allOps {
		checkOperation(t, op, a, b, xs, ys)
		checkOperation(t, op, b, a, ys, xs)
	}
}

func checkSomeWords(t *testing.T, g *lcg, a, b impl.Stretch) {
	t.Helper()
	checkOperations(t, a, b, someWords(g, a), someWords(g, b))
}

// eachStretch visits all intervals whose ends are in lo..hi.
func eachStretch(lo, hi int, visit func(s impl.Stretch)) {
	for x := lo; x <= hi; x++ {
		for y := x; y <= hi; y++ {
			visit(from(x, y))
		}
	}
}

func eachPairOfStretches(lo, hi int, visit func(a, b impl.Stretch)) {
	eachStretch(lo, hi, func(a impl.Stretch) {
		eachStretch(lo, hi, func(b impl.Stretch) { visit(a, b) })
	})
}

// edgeStretches are intervals of one word, of two, from 0 on, up to 65535 and
// around the powers of 2, and the one of all words.
func edgeStretches() []impl.Stretch {
	l := []impl.Stretch{
		allOfThem, from(0, 65534), from(1, 65535), from(1, 65534), from(0, 32767), from(32768, 65535), from(32767, 32768),
		from(15, 16), from(15, 17), from(0, 15), from(0, 16), from(16, 31), from(255, 256), from(256, 511), from(250, 260),
		from(4095, 4096), from(4096, 4100), from(9, 40), from(100, 4000), from(30000, 40000), from(65500, 65530),
	}
	for _, n := range edgeWords {
		l = append(l, one(n))
		if n > 0 {
			l = append(l, from(0, n))
		}
		if n < 65535 {
			l = append(l, from(n, 65535), from(n, n+1))
		}
	}
	return l
}

// someStretch is as often narrow as it is wide.
func someStretch(g *lcg) impl.Stretch {
	lo := g.below(65536)
	if g.below(3) == 0 {
		lo = g.below(600)
	}
	return from(lo, min(65535, lo+g.below(1<<g.below(17))))
}

// Promise 9: all pairs of words of all small intervals, at both ends of the words.
func TestEveryOperationOnSmallStretches(t *testing.T) {
	g := lcg(901)
	for _, lo := range []int{0, 14, 65530} {
		eachPairOfStretches(lo, lo+5, func(a, b impl.Stretch) { checkSomeWords(t, &g, a, b) })
	}
	eachStretch(0, 5, func(a impl.Stretch) {
		eachStretch(65530, 65535, func(b impl.Stretch) { checkSomeWords(t, &g, a, b) })
		eachStretch(32766, 32769, func(b impl.Stretch) { checkSomeWords(t, &g, a, b) })
		eachStretch(254, 258, func(b impl.Stretch) { checkSomeWords(t, &g, a, b) })
	})
}

// Promise 9: all pairs of intervals with ends that matter.
func TestEveryOperationOnEdgeStretches(t *testing.T) {
	g := lcg(902)
	l := edgeStretches()
	for i, a := range l {
		for _, b := range l[i:] {
			checkSomeWords(t, &g, a, b)
		}
	}
}

// Promise 9: intervals that are drawn.
func TestEveryOperationOnSomeStretches(t *testing.T) {
	g := lcg(903)
	whole, narrower := map[int]int{}, map[int]int{}
	for range 6000 {
		a, b := someStretch(&g), someStretch(&g)
		checkSomeWords(t, &g, a, b)
		for _, op := range []int{impl.OpAdd, impl.OpSub, impl.OpMul} {
			if s, _ := impl.DoStretch(op, a, b); s == allOfThem {
				whole[op]++
			} else {
				narrower[op]++
			}
		}
	}
	for _, op := range []int{impl.OpAdd, impl.OpSub, impl.OpMul} {
		if whole[op] < 300 || narrower[op] < 300 {
			t.Errorf("operation %d: %d intervals of all words, %d others", op, whole[op], narrower[op])
		}
	}
}

// Promise 9: all pairs of words of larger intervals.
func TestOperationsOfManyWords(t *testing.T) {
	pairs := [][2]impl.Stretch{
		{from(0, 299), from(0, 299)}, {from(200, 400), from(150, 350)}, {from(65300, 65535), from(65400, 65535)},
		{from(0, 200), from(65300, 65535)}, {from(32700, 32900), from(0, 70)}, {from(1000, 1200), from(1, 130)},
		{one(0), allOfThem}, {one(65535), allOfThem}, {one(7), from(1, 65535)},
	}
	for _, p := range pairs {
		checkOperations(t, p[0], p[1], wordsOf(p[0]), wordsOf(p[1]))
	}
}

// rowCase is a result of DoStretch, written out by hand.
type rowCase struct{ a, b, want impl.Stretch }

func checkRowCases(t *testing.T, op int, cases []rowCase) {
	t.Helper()
	for _, c := range cases {
		if s, ok := impl.DoStretch(op, c.a, c.b); s != c.want || !ok {
			t.Errorf("DoStretch(%d, %v, %v) = %v, %t, want %v, true", op, c.a, c.b, s, ok, c.want)
		}
	}
}

func TestSumsOfStretches(t *testing.T) {
	checkRowCases(t, impl.OpAdd, []rowCase{
		// Neither end wraps around.
		{from(5, 9), from(1, 2), from(6, 11)},
		{one(0), one(0), one(0)},
		{allOfThem, one(0), allOfThem},
		{from(3, 4), allOfThem, allOfThem},
		{from(0, 1), one(65534), from(65534, 65535)},
		{from(1, 32767), from(1, 32768), from(2, 65535)},
		// Both ends do.
		{one(65535), one(1), one(0)},
		{one(65535), one(65535), one(65534)},
		{from(65000, 65535), from(536, 600), from(0, 599)},
		{from(1, 65535), one(65535), from(0, 65534)},
		{from(32768, 40000), from(32768, 40000), from(0, 14464)},
		// The upper end does.
		{from(65534, 65535), one(1), allOfThem},
		{one(65535), from(0, 1), allOfThem},
		{from(0, 65535), one(1), allOfThem},
		{from(0, 65535), one(65535), allOfThem},
		{from(65000, 65535), from(535, 600), allOfThem},
		{from(32767, 40000), from(32768, 40000), allOfThem},
		{allOfThem, allOfThem, allOfThem},
	})
}

func TestDifferencesOfStretches(t *testing.T) {
	checkRowCases(t, impl.OpSub, []rowCase{
		// Neither end wraps around.
		{from(5, 9), from(1, 2), from(3, 8)},
		{from(10, 20), from(0, 10), from(0, 20)},
		{one(65535), allOfThem, allOfThem},
		{from(3, 65535), one(3), from(0, 65532)},
		{allOfThem, one(0), allOfThem},
		{one(9), one(9), one(0)},
		// Both ends do.
		{one(0), one(1), one(65535)},
		{one(0), one(65535), one(1)},
		{from(0, 1), from(2, 3), from(65533, 65535)},
		{one(0), from(1, 65535), from(1, 65535)},
		{from(10, 20), from(21, 30), from(65516, 65535)},
		{from(0, 65534), one(65535), from(1, 65535)},
		// The lower end does.
		{from(0, 1), one(1), allOfThem},
		{one(0), from(0, 1), allOfThem},
		{from(10, 20), from(5, 15), allOfThem},
		{from(10, 20), from(20, 30), allOfThem},
		{from(10, 20), from(0, 11), allOfThem},
		{from(2, 65535), one(3), allOfThem},
		{one(0), allOfThem, allOfThem},
		{allOfThem, allOfThem, allOfThem},
	})
}

func TestProductsOfStretches(t *testing.T) {
	checkRowCases(t, impl.OpMul, []rowCase{
		// Neither end wraps around.
		{from(2, 3), from(4, 5), from(8, 15)},
		{allOfThem, one(0), one(0)},
		{allOfThem, one(1), allOfThem},
		{one(255), one(257), one(65535)},
		{from(0, 256), from(0, 255), from(0, 65280)},
		// Both ends do, by the same number of times.
		{one(256), one(256), one(0)},
		{one(65535), one(65535), one(1)},
		{from(256, 257), one(256), from(0, 256)},
		{from(32768, 32769), one(2), from(0, 2)},
		{from(300, 301), one(437), from(28, 465)},
		{from(65533, 65535), one(3), from(65527, 65533)},
		// One end does.
		{from(255, 256), one(256), allOfThem},
		{from(1, 2), one(32768), allOfThem},
		{from(0, 256), from(0, 256), allOfThem},
		{from(0, 65535), from(0, 2), allOfThem},
		// One end does once more than the other.
		{one(300), from(436, 437), allOfThem},
		{from(65534, 65535), one(65535), allOfThem},
		{from(256, 512), one(256), allOfThem},
		{allOfThem, allOfThem, allOfThem},
	})
}

func TestQuotientsOfStretches(t *testing.T) {
	checkRowCases(t, impl.OpDiv, []rowCase{
		// The divisor is not 0.
		{from(7, 20), from(2, 3), from(2, 10)},
		{from(7, 20), from(1, 3), from(2, 20)},
		{from(7, 20), one(1), from(7, 20)},
		{from(7, 20), from(8, 30), from(0, 2)},
		{from(7, 20), from(21, 30), one(0)},
		{allOfThem, from(1, 65535), allOfThem},
		{one(65535), one(65535), one(1)},
		{one(65535), one(256), one(255)},
		{from(65280, 65535), from(255, 256), from(255, 257)},
		// It may be.
		{from(7, 20), one(0), from(0, 20)},
		{from(7, 20), from(0, 1), from(0, 20)},
		{from(7, 20), from(0, 3), from(0, 20)},
		{one(5), allOfThem, from(0, 5)},
		{one(0), one(0), one(0)},
		{one(65535), one(0), allOfThem},
	})
}

func TestRemaindersOfStretches(t *testing.T) {
	checkRowCases(t, impl.OpMod, []rowCase{
		// All words are less than all divisors.
		{from(3, 5), from(6, 9), from(3, 5)},
		{one(0), one(1), one(0)},
		{from(9, 65534), one(65535), from(9, 65534)},
		// b.Hi - 1 is below a.Hi.
		{from(7, 20), from(2, 8), from(0, 7)},
		{from(7, 20), from(2, 20), from(0, 19)},
		{from(7, 20), one(1), one(0)},
		{from(3, 5), one(5), from(0, 4)},
		{one(65535), one(65535), from(0, 65534)},
		{from(7, 20), from(7, 7), from(0, 6)},
		// It is not.
		{from(3, 6), from(6, 9), from(0, 6)},
		{from(7, 20), from(2, 21), from(0, 20)},
		{from(7, 20), from(2, 22), from(0, 20)},
		{from(7, 20), from(20, 30), from(0, 20)},
		{from(7, 20), from(1, 65535), from(0, 20)},
		// The divisor may be 0.
		{from(7, 20), one(0), from(0, 20)},
		{from(7, 20), from(0, 3), from(0, 20)},
		{from(7, 20), from(0, 30), from(0, 20)},
		{one(0), one(0), one(0)},
		{one(65535), from(0, 1), allOfThem},
	})
}

func TestBitwiseStretches(t *testing.T) {
	checkRowCases(t, impl.OpAnd, []rowCase{
		{from(5, 9), from(3, 7), from(0, 7)},
		{from(3, 7), from(5, 9), from(0, 7)},
		{one(12), one(10), from(0, 10)},
		{one(0), allOfThem, one(0)},
		{allOfThem, one(65535), allOfThem},
		{allOfThem, from(32768, 65534), from(0, 65534)},
	})
	checkRowCases(t, impl.OpOr, []rowCase{
		{from(5, 9), from(3, 7), from(5, 15)},
		{from(3, 7), from(5, 9), from(5, 15)},
		{from(1, 5), one(8), from(8, 15)},
		{from(0, 7), from(0, 8), from(0, 15)},
		{from(0, 32767), from(9, 20), from(9, 32767)},
		{from(0, 32768), one(0), allOfThem},
		{one(65535), one(0), one(65535)},
		{allOfThem, one(65535), one(65535)},
	})
	checkRowCases(t, impl.OpXor, []rowCase{
		{from(5, 9), from(3, 7), from(0, 15)},
		{from(3, 7), from(5, 9), from(0, 15)},
		{one(7), one(7), from(0, 7)},
		{from(8, 9), one(7), from(0, 15)},
		{from(1, 32767), one(32767), from(0, 32767)},
		{one(32768), one(0), allOfThem},
		{allOfThem, one(0), allOfThem},
	})
}

// What is at, below and above a power of 2 beside smaller words: its bits are
// those of the upper end.
func TestBitsOfStretches(t *testing.T) {
	checkRowCases(t, impl.OpXor, []rowCase{{one(0), one(0), one(0)}})
	checkRowCases(t, impl.OpOr, []rowCase{{one(0), one(0), one(0)}})
	for k := range 16 {
		power := 1 << k
		cases := map[int]int{power - 1: power - 1, power: 2*power - 1}
		if k > 0 {
			cases[power+1] = 2*power - 1
		}
		for hi, want := range cases {
			for _, less := range []impl.Stretch{one(0), from(0, hi), one(hi)} {
				checkRowCases(t, impl.OpXor, []rowCase{{one(hi), less, from(0, want)}, {less, one(hi), from(0, want)}})
				checkRowCases(t, impl.OpOr, []rowCase{{one(hi), less, from(hi, want)}, {less, one(hi), from(hi, want)}})
				checkRowCases(t, impl.OpOr, []rowCase{{from(0, hi), less, from(less.Lo, want)}})
				checkRowCases(t, impl.OpAnd, []rowCase{{one(hi), less, from(0, less.Hi)}, {less, from(0, hi), from(0, less.Hi)}})
			}
		}
	}
}

func TestShiftsOfStretches(t *testing.T) {
	checkRowCases(t, impl.OpShl, []rowCase{
		// Neither end wraps around.
		{from(1, 3), one(4), from(16, 48)},
		{from(1, 3), one(0), from(1, 3)},
		{from(0, 1), one(15), from(0, 32768)},
		{from(1, 3), one(16), from(1, 3)},
		{from(1, 3), one(17), from(2, 6)},
		{one(1), one(65535), one(32768)},
		{allOfThem, one(65520), allOfThem},
		// Both ends do, by the same number of times.
		{from(2, 3), one(15), from(0, 32768)},
		{from(4096, 4097), one(4), from(0, 16)},
		{one(65535), one(8), one(65280)},
		{one(65535), one(65535), one(32768)},
		// They do not wrap around alike.
		{from(1, 2), one(15), allOfThem},
		{from(2, 4), one(15), allOfThem},
		{from(1, 3), one(65535), allOfThem},
		{from(4095, 4096), one(4), allOfThem},
		// There are several distances.
		{from(1, 3), from(4, 5), allOfThem},
		{one(0), from(0, 1), allOfThem},
		{one(1), from(0, 16), allOfThem},
		{one(1), from(15, 16), allOfThem},
		{one(0), allOfThem, allOfThem},
	})
	checkRowCases(t, impl.OpShr, []rowCase{
		{from(16, 48), one(4), from(1, 3)},
		{from(15, 49), one(4), from(0, 3)},
		{from(7, 9), one(0), from(7, 9)},
		{from(32767, 65535), one(15), from(0, 1)},
		{from(7, 9), one(16), from(7, 9)},
		{from(256, 511), one(20), from(16, 31)},
		{from(32768, 65535), one(65535), one(1)},
		{allOfThem, one(65535), from(0, 1)},
		// There are several distances.
		{from(16, 48), from(4, 5), from(0, 48)},
		{one(0), from(0, 1), one(0)},
		{one(5), from(0, 16), from(0, 5)},
		{from(7, 9), from(15, 16), from(0, 9)},
		{from(16, 65535), allOfThem, allOfThem},
	})
}

// Every distance is taken modulo 16.
func TestEveryDistanceOfStretches(t *testing.T) {
	for distance := range 65536 {
		for _, a := range []impl.Stretch{from(3, 5), from(40000, 40001)} {
			checkRow(t, impl.OpShl, a, one(distance))
			checkRow(t, impl.OpShr, a, one(distance))
		}
	}
}

// Promise 9 by counting: InStretch and SizeOf beside all words.
func TestWordsOfStretches(t *testing.T) {
	for _, s := range edgeStretches() {
		count := 0
		for n := range 65536 {
			in, ok := impl.InStretch(s, n)
			if !ok || in != wantIn(s, n) {
				t.Fatalf("InStretch(%v, %d) = %t, %t", s, n, in, ok)
			}
			if in {
				count++
			}
		}
		if size, ok := impl.SizeOf(s); size != count || !ok {
			t.Fatalf("SizeOf(%v) = %d, %t, %d words are in it", s, size, ok, count)
		}
	}
	for s, want := range map[impl.Stretch]int{one(0): 1, one(65535): 1, from(1, 5): 5, from(65534, 65535): 2, allOfThem: 65536} {
		if size, ok := impl.SizeOf(s); size != want || !ok {
			t.Errorf("SizeOf(%v) = %d, %t, want %d, true", s, size, ok, want)
		}
	}
}

// checkJoin tries each word that may be in one of the intervals.
func checkJoin(t *testing.T, a, b impl.Stretch, words []int) {
	t.Helper()
	joined, ok := impl.JoinStretch(a, b)
	if !ok || !impl.GoodStretch(joined) {
		t.Fatalf("JoinStretch(%v, %v) = %v, %t", a, b, joined, ok)
	}
	for _, n := range words {
		if (wantIn(a, n) || wantIn(b, n)) && !wantIn(joined, n) {
			t.Fatalf("JoinStretch(%v, %v) = %v does not contain %d", a, b, joined, n)
		}
	}
	for _, end := range []int{joined.Lo, joined.Hi} {
		if !wantIn(a, end) && !wantIn(b, end) {
			t.Fatalf("JoinStretch(%v, %v) = %v could end ahead of %d", a, b, joined, end)
		}
	}
}

func checkMeet(t *testing.T, a, b impl.Stretch, words []int) {
	t.Helper()
	met, ok := impl.MeetStretch(a, b)
	some := false
	for _, n := range words {
		both := wantIn(a, n) && wantIn(b, n)
		some = some || both
		if ok && wantIn(met, n) != both {
			t.Fatalf("MeetStretch(%v, %v) = %v: %d", a, b, met, n)
		}
	}
	if ok != some || ok && !impl.GoodStretch(met) || !ok && met != (impl.Stretch{}) {
		t.Fatalf("MeetStretch(%v, %v) = %v, %t", a, b, met, ok)
	}
}

func checkWithin(t *testing.T, a, b impl.Stretch, words []int) {
	t.Helper()
	want := !slices.ContainsFunc(words, func(n int) bool { return wantIn(a, n) && !wantIn(b, n) })
	if within, ok := impl.WithinStretch(a, b); within != want || !ok {
		t.Fatalf("WithinStretch(%v, %v) = %t, %t, want %t, true", a, b, within, ok, want)
	}
}

// checkSplit tries all pairs of words.
func checkSplit(t *testing.T, a, b impl.Stretch) {
	t.Helper()
	less, greater := map[int]bool{}, map[int]bool{}
	for x := a.Lo; x <= a.Hi; x++ {
		for y := b.Lo; y <= b.Hi; y++ {
			if x < y {
				less[x], greater[y] = true, true
			}
		}
	}
	l, g, ok := impl.SplitLess(a, b)
	if ok != (len(less) > 0) || !ok && (l != impl.Stretch{} || g != impl.Stretch{}) {
		t.Fatalf("SplitLess(%v, %v) = %v, %v, %t", a, b, l, g, ok)
	}
	if !ok {
		return
	}
	if !isSet(l, less) || !isSet(g, greater) {
		t.Fatalf("SplitLess(%v, %v) = %v, %v, want %v, %v", a, b, l, g, less, greater)
	}
}

// isSet reports whether a valid interval has just these words.
func isSet(s impl.Stretch, words map[int]bool) bool {
	for n := s.Lo; n <= s.Hi; n++ {
		if !words[n] {
			return false
		}
	}
	return impl.GoodStretch(s) && s.Hi-s.Lo+1 == len(words)
}

// Disjoint intervals, touching ones, equal ones and those within another are
// all among these.
func TestEveryPairOfSmallStretches(t *testing.T) {
	words := []int{0, 1, 2, 3, 4, 5, 6, 65529, 65530, 65531, 65532, 65533, 65534, 65535}
	for _, lo := range []int{0, 65529} {
		eachPairOfStretches(lo, lo+6, func(a, b impl.Stretch) {
			checkJoin(t, a, b, words)
			checkMeet(t, a, b, words)
			checkWithin(t, a, b, words)
			checkSplit(t, a, b)
		})
	}
	eachStretch(0, 6, func(a impl.Stretch) {
		eachStretch(65529, 65535, func(b impl.Stretch) {
			checkSplit(t, a, b)
			checkSplit(t, b, a)
		})
	})
}

// The ends of all intervals, and their neighbours, stand for all words.
func TestPairsOfEdgeStretches(t *testing.T) {
	l := edgeStretches()
	for _, a := range l {
		for _, b := range l {
			var words []int
			for _, n := range []int{a.Lo, a.Hi, b.Lo, b.Hi} {
				words = append(words, max(n-1, 0), n, min(n+1, 65535))
			}
			checkJoin(t, a, b, words)
			checkMeet(t, a, b, words)
			checkWithin(t, a, b, words)
		}
	}
}

func TestPairsOfStretchesByHand(t *testing.T) {
	cases := []struct {
		a, b, join, meet impl.Stretch
		meets, within    bool
	}{
		{from(1, 5), from(4, 9), from(1, 9), from(4, 5), true, false},
		{from(1, 5), from(1, 5), from(1, 5), from(1, 5), true, true},
		{from(1, 5), from(7, 9), from(1, 9), impl.Stretch{}, false, false},
		{from(7, 9), from(1, 5), from(1, 9), impl.Stretch{}, false, false},
		{from(1, 5), from(6, 9), from(1, 9), impl.Stretch{}, false, false},
		{from(1, 5), from(5, 9), from(1, 9), one(5), true, false},
		{from(5, 9), from(1, 5), from(1, 9), one(5), true, false},
		{from(2, 3), from(1, 5), from(1, 5), from(2, 3), true, true},
		{from(1, 5), from(2, 3), from(1, 5), from(2, 3), true, false},
		{from(1, 3), from(1, 5), from(1, 5), from(1, 3), true, true},
		{from(3, 5), from(1, 5), from(1, 5), from(3, 5), true, true},
		{one(0), one(65535), allOfThem, impl.Stretch{}, false, false},
		{one(0), one(0), one(0), one(0), true, true},
		{one(65535), allOfThem, allOfThem, one(65535), true, true},
		{allOfThem, one(0), allOfThem, one(0), true, false},
		{allOfThem, allOfThem, allOfThem, allOfThem, true, true},
		{from(0, 65534), from(1, 65535), allOfThem, from(1, 65534), true, false},
	}
	for _, c := range cases {
		if s, ok := impl.JoinStretch(c.a, c.b); s != c.join || !ok {
			t.Errorf("JoinStretch(%v, %v) = %v, %t", c.a, c.b, s, ok)
		}
		if s, ok := impl.MeetStretch(c.a, c.b); s != c.meet || ok != c.meets {
			t.Errorf("MeetStretch(%v, %v) = %v, %t", c.a, c.b, s, ok)
		}
		if within, ok := impl.WithinStretch(c.a, c.b); within != c.within || !ok {
			t.Errorf("WithinStretch(%v, %v) = %t, %t", c.a, c.b, within, ok)
		}
	}
}

func TestSplitLessByHand(t *testing.T) {
	none := impl.Stretch{}
	cases := []struct {
		a, b, less, greater impl.Stretch
		ok                  bool
	}{
		{from(1, 9), from(0, 4), from(1, 3), from(2, 4), true},
		{from(1, 9), from(1, 9), from(1, 8), from(2, 9), true},
		{from(0, 4), from(1, 9), from(0, 4), from(1, 9), true},
		{from(1, 3), from(5, 9), from(1, 3), from(5, 9), true},
		{from(5, 9), from(1, 3), none, none, false},
		{from(5, 9), from(1, 5), none, none, false},
		{from(5, 9), from(1, 6), one(5), one(6), true},
		{one(5), one(5), none, none, false},
		{one(5), one(6), one(5), one(6), true},
		{one(6), one(5), none, none, false},
		{one(0), one(0), none, none, false},
		{one(65535), one(65535), none, none, false},
		{one(65535), allOfThem, none, none, false},
		{allOfThem, one(0), none, none, false},
		{one(0), allOfThem, one(0), from(1, 65535), true},
		{allOfThem, one(65535), from(0, 65534), one(65535), true},
		{allOfThem, allOfThem, from(0, 65534), from(1, 65535), true},
		{from(65534, 65535), from(65534, 65535), one(65534), one(65535), true},
		{from(2, 9), from(4, 6), from(2, 5), from(4, 6), true},
		{from(4, 6), from(2, 9), from(4, 6), from(5, 9), true},
	}
	for _, c := range cases {
		if l, g, ok := impl.SplitLess(c.a, c.b); l != c.less || g != c.greater || ok != c.ok {
			t.Errorf("SplitLess(%v, %v) = %v, %v, %t, want %v, %v, %t", c.a, c.b, l, g, ok, c.less, c.greater, c.ok)
		}
	}
}

func TestGoodStretch(t *testing.T) {
	for _, s := range append(edgeStretches(), one(0), allOfThem, one(65535), from(65534, 65535)) {
		if !impl.GoodStretch(s) {
			t.Errorf("GoodStretch(%v) = false", s)
		}
	}
	for _, s := range badStretches() {
		if impl.GoodStretch(s) {
			t.Errorf("GoodStretch(%v) = true", s)
		}
	}
	ends := slices.Concat(edgeWords, nonWords)
	for _, lo := range ends {
		for _, hi := range ends {
			if s := from(lo, hi); impl.GoodStretch(s) != wantGoodStretch(s) {
				t.Errorf("GoodStretch(%v) = %t", s, !wantGoodStretch(s))
			}
		}
	}
}

// badStretches have Lo above Hi, or an end that is no word.
func badStretches() []impl.Stretch {
	l := []impl.Stretch{
		from(1, 0), from(5, 4), from(9, 5), from(65535, 0), from(65535, 65534), from(32768, 32767),
		from(-1, 0), from(-1, 65535), from(0, -1), from(0, 65536), from(65535, 65536), from(-1, 65536), from(-2, -1), from(65536, 65537),
		from(math.MinInt, math.MaxInt), from(math.MaxInt, math.MinInt), from(1<<32, 1<<32+5), from(-1<<32, 1<<32),
	}
	for _, n := range nonWords {
		l = append(l, one(n), from(n, 0), from(0, n), from(n, 65535), from(65535, n), from(n, 9), from(9, n))
	}
	return l
}

func wantZeroStretch(t *testing.T, s impl.Stretch) {
	t.Helper()
	if size, ok := impl.SizeOf(s); size != 0 || ok {
		t.Errorf("SizeOf(%v) = %d, %t", s, size, ok)
	}
	for _, n := range []int{s.Lo, s.Hi, s.Lo + 1, s.Hi - 1, 0, 1, 5, 65535, -1, 65536} {
		if in, ok := impl.InStretch(s, n); in || ok {
			t.Errorf("InStretch(%v, %d) = %t, %t", s, n, in, ok)
		}
	}
}

func wantZeroPair(t *testing.T, a, b impl.Stretch) {
	t.Helper()
	none := impl.Stretch{}
	for _, op := range allOps {
		if s, ok := impl.DoStretch(op, a, b); s != none || ok {
			t.Errorf("DoStretch(%d, %v, %v) = %v, %t", op, a, b, s, ok)
		}
	}
	if s, ok := impl.JoinStretch(a, b); s != none || ok {
		t.Errorf("JoinStretch(%v, %v) = %v, %t", a, b, s, ok)
	}
	if s, ok := impl.MeetStretch(a, b); s != none || ok {
		t.Errorf("MeetStretch(%v, %v) = %v, %t", a, b, s, ok)
	}
	if within, ok := impl.WithinStretch(a, b); within || ok {
		t.Errorf("WithinStretch(%v, %v) = %t, %t", a, b, within, ok)
	}
	if l, g, ok := impl.SplitLess(a, b); l != none || g != none || ok {
		t.Errorf("SplitLess(%v, %v) = %v, %v, %t", a, b, l, g, ok)
	}
}

// Promise 19: intervals that are not valid, as each argument of each function.
func TestBadStretches(t *testing.T) {
	bad := badStretches()
	for _, s := range bad {
		wantZeroStretch(t, s)
		for _, good := range []impl.Stretch{one(0), one(5), from(1, 9), from(0, 16), one(65535), from(65534, 65535), allOfThem} {
			wantZeroPair(t, s, good)
			wantZeroPair(t, good, s)
		}
		for _, other := range bad {
			wantZeroPair(t, s, other)
		}
	}
}

// Promise 19: numbers that are no words.
func TestNonWordsOfStretches(t *testing.T) {
	for _, n := range nonWords {
		for _, s := range edgeStretches() {
			if in, ok := impl.InStretch(s, n); in || ok {
				t.Errorf("InStretch(%v, %d) = %t, %t", s, n, in, ok)
			}
		}
	}
}

// Promise 19: operations that are not in the list.
func TestUnknownOperationsOfStretches(t *testing.T) {
	good := []impl.Stretch{one(0), one(5), from(0, 3), one(65535), allOfThem}
	for _, op := range append([]int{-10, 12, 65537, math.MaxInt32 + 2}, oddNumbers...) {
		if op >= impl.OpAdd && op <= impl.OpShr {
			continue
		}
		for _, a := range good {
			for _, b := range append(badStretches(), good...) {
				for _, x := range [][2]impl.Stretch{{a, b}, {b, a}} {
					if s, ok := impl.DoStretch(op, x[0], x[1]); s != (impl.Stretch{}) || ok {
						t.Fatalf("DoStretch(%d, %v, %v) = %v, %t", op, x[0], x[1], s, ok)
					}
				}
			}
		}
	}
}

// Promise 19: the functions answer for every number in every place.
func TestStretchesWithOddNumbers(t *testing.T) {
	g := lcg(904)
	good := 0
	for range 20000 {
		a, b := from(oftenSmall(&g), oftenSmall(&g)), from(oftenSmall(&g), oftenSmall(&g))
		if !wantGoodStretch(a) {
			wantZeroStretch(t, a)
			wantZeroPair(t, a, b)
			wantZeroPair(t, b, a)
		} else if wantGoodStretch(b) {
			checkSomeWords(t, &g, a, b)
			good++
		}
	}
	if good < 2000 {
		t.Errorf("%d pairs are valid", good)
	}
}
