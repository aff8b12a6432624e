package tests

import (
	"math"
	"slices"
	"testing"

	"loop.example/g00605/impl"
)

// known, exact and pattern keep the tables of Knowns short.
func known(value, mask int) impl.Known {
	return impl.Known{Value: value, Mask: mask}
}

func exact(n int) impl.Known {
	return known(n, 0)
}

// pattern reads the lowest bits from left to right, of which x is unknown; the
// bits above them are 0.
func pattern(text string) impl.Known {
	k := impl.Known{}
	for _, c := range text {
		k = known(2*k.Value, 2*k.Mask)
		switch c {
		case '1':
			k.Value++
		case 'x':
			k.Mask++
		}
	}
	return k
}

var noneKnown = impl.Known{Value: 0, Mask: 65535}

// wantGoodKnown goes by Go's own 16-bit type and adds without any carry.
func wantGoodKnown(k impl.Known) bool {
	return k.Value == int(uint16(k.Value)) && k.Mask == int(uint16(k.Mask)) && k.Value+k.Mask == k.Value|k.Mask
}

// choices returns what the bit at a place may be.
func choices(k impl.Known, place int) []int {
	if k.Mask>>place&1 == 1 {
		return []int{0, 1}
	}
	return []int{k.Value >> place & 1}
}

// matching returns the words that match in ascending order, from the choices of
// each bit.
func matching(k impl.Known) []int {
	words := []int{0}
	for place := 15; place >= 0; place-- {
		var longer []int
		for _, n := range words {
			for _, c := range choices(k, place) {
				longer = append(longer, n+c<<place)
			}
		}
		words = longer
	}
	return words
}

func wantMatch(k impl.Known, n int) bool {
	for place := range 16 {
		if !slices.Contains(choices(k, place), n>>place&1) {
			return false
		}
	}
	return true
}

// withChoices puts at a place, where k is still 0, what the bit may be.
func withChoices(k impl.Known, place int, bits []int) impl.Known {
	if len(bits) == 2 {
		return known(k.Value, k.Mask+1<<place)
	}
	return known(k.Value+bits[0]<<place, k.Mask)
}

func withOnce(l []int, n int) []int {
	if slices.Contains(l, n) {
		return l
	}
	return append(l, n)
}

// wantOf looks at each place for two words that differ in it. It is zero for no
// words.
func wantOf(words []int) impl.Known {
	k := impl.Known{}
	for place := range 16 {
		var bits []int
		for _, n := range words {
			bits = withOnce(bits, n>>place&1)
			if len(bits) == 2 {
				break
			}
		}
		if len(bits) > 0 {
			k = withChoices(k, place, bits)
		}
	}
	return k
}

// wantCarried goes through the places from the lowest on and keeps the carries
// that may come out of the last one. The bits of a place do not depend on those
// below it, so each of them may come together with each carry.
func wantCarried(a, b impl.Known, at func(x, y, carry int) (bit, next int)) impl.Known {
	k := impl.Known{}
	carries := []int{0}
	for place := range 16 {
		var bits, nexts []int
		for _, x := range choices(a, place) {
			for _, y := range choices(b, place) {
				for _, carry := range carries {
					bit, next := at(x, y, carry)
					bits = withOnce(bits, bit)
					nexts = withOnce(nexts, next)
				}
			}
		}
		k = withChoices(k, place, bits)
		carries = nexts
	}
	return k
}

func addBits(x, y, carry int) (int, int) {
	n := x + y + carry
	return n % 2, n / 2
}

func subtractBits(x, y, borrow int) (int, int) {
	n := x - y - borrow
	if n < 0 {
		return n + 2, 1
	}
	return n, 0
}

func wantBitByBit(op int, a, b impl.Known) impl.Known {
	return wantCarried(a, b, func(x, y, _ int) (int, int) { return wantOp(op, x, y), 0 })
}

// wantShifted moves the bits by as many places; what comes in is 0.
func wantShifted(k impl.Known, up int) impl.Known {
	shifted := impl.Known{}
	for place := range 16 {
		if from := place - up; from >= 0 && from < 16 {
			shifted = withChoices(shifted, place, choices(k, from))
		}
	}
	return shifted
}

// wantKnown is the chapter's table.
func wantKnown(op int, a, b impl.Known) impl.Known {
	switch op {
	case impl.OpAdd:
		return wantCarried(a, b, addBits)
	case impl.OpSub:
		return wantCarried(a, b, subtractBits)
	case impl.OpAnd, impl.OpOr, impl.OpXor:
		return wantBitByBit(op, a, b)
	}
	if b.Mask > 0 {
		return noneKnown
	}
	switch op {
	case impl.OpShl:
		return wantShifted(a, b.Value%16)
	case impl.OpShr:
		return wantShifted(a, -(b.Value % 16))
	}
	if a.Mask > 0 {
		return noneKnown
	}
	return exact(wantOp(op, a.Value, b.Value))
}

// checkKnown compares with the table and returns the Known.
func checkKnown(t *testing.T, op int, a, b impl.Known) impl.Known {
	t.Helper()
	k, ok := impl.DoKnown(op, a, b)
	if want := wantKnown(op, a, b); k != want || !ok {
		t.Fatalf("DoKnown(%d, %v, %v) = %v, %t, want %v, true", op, a, b, k, ok, want)
	}
	if !impl.GoodKnown(k) {
		t.Fatalf("DoKnown(%d, %v, %v) = %v: not valid", op, a, b, k)
	}
	return k
}

// isBest reports whether no further bit could be known of an operation.
func isBest(op int) bool {
	switch op {
	case impl.OpAdd, impl.OpSub, impl.OpAnd, impl.OpOr, impl.OpXor:
		return true
	}
	return false
}

// checkMatches is promise 10 for one operation on two Knowns and those words of
// them. Where no further bit could be known, these words have two results that
// differ in each unknown bit.
func checkMatches(t *testing.T, op int, a, b impl.Known, xs, ys []int) {
	t.Helper()
	k := checkKnown(t, op, a, b)
	var results []int
	for _, x := range xs {
		for _, y := range ys {
			n, ok := impl.DoOp(op, x, y)
			if !ok || n&(65535-k.Mask) != k.Value {
				t.Fatalf("DoKnown(%d, %v, %v) = %v: DoOp(%d, %d, %d) = %d, %t does not match", op, a, b, k, op, x, y, n, ok)
			}
			results = append(results, n)
		}
	}
	if isBest(op) && k != wantOf(results) {
		t.Fatalf("DoKnown(%d, %v, %v) = %v: %v is known", op, a, b, k, wantOf(results))
	}
}

// telling returns all words that match if at most four bits are unknown, and
// otherwise enough of them to tell each bit that is not always the same: the
// least and the greatest, between which each carry differs that may, and one
// for each unknown bit. Some are drawn.
func telling(g *lcg, k impl.Known) []int {
	words := []int{k.Value, k.Value + k.Mask}
	for place := range 16 {
		if len(choices(k, place)) == 2 {
			words = append(words, k.Value+1<<place)
		}
	}
	if unknown := len(words) - 2; unknown <= 4 {
		return matching(k)
	}
	for range 4 {
		words = append(words, drawn(g, k))
	}
	return words
}

func drawn(g *lcg, k impl.Known) int {
	n := 0
	for place := range 16 {
		l := choices(k, place)
		n += l[g.below(len(l))] << place
	}
	return n
}

// checkAllOps is promise 10 for all operations and both orders.
func checkAllOps(t *testing.T, a, b impl.Known, xs, ys []int) {
	t.Helper()
	for _, op := range allOps {
		checkMatches(t, op, a, b, xs, ys)
		checkMatches(t, op, b, a, ys, xs)
	}
}

// edgeKnowns have all bits known, none, one unknown at each place, all but one,
// the lowest, the highest, and every other one.
func edgeKnowns() []impl.Known {
	l := []impl.Known{
		noneKnown, known(0, 1), known(65534, 1), known(0, 32768), known(32767, 32768), known(0, 32769), known(32766, 32769),
		known(0, 21845), known(43690, 21845), known(0, 43690), known(21845, 43690), known(8738, 21845), known(17, 43690),
		known(0, 255), known(65280, 255), known(0, 65280), known(255, 65280), known(4096, 4095), known(15, 65520),
		known(32768, 32767), known(1, 65534), known(0, 32767), known(0, 65534), known(4, 1), known(8, 2), known(16, 15),
	}
	for _, n := range []int{0, 1, 2, 7, 15, 16, 17, 255, 256, 4660, 21845, 32767, 32768, 43690, 65534, 65535} {
		l = append(l, exact(n))
	}
	for place := range 16 {
		bit := 1 << place
		l = append(l, known(0, bit), known(65535-bit, bit), known(0, 65535-bit), known(bit, 65535-bit), known(4660&^bit, bit))
	}
	return l
}

// someKnown has as often few unknown bits as it has many.
func someKnown(g *lcg) impl.Known {
	mask := g.below(65536)
	switch g.below(6) {
	case 0:
		mask = 0
	case 1:
		mask = 1 << g.below(16)
	case 2:
		mask &= g.below(65536) & g.below(65536)
	case 3:
		mask |= g.below(65536)
	}
	return known(g.below(65536)&^mask, mask)
}

// eachKnownAt visits all Knowns that have the bits of the base but at these
// places, where they have each of 0, 1 and unknown.
func eachKnownAt(base int, places []int, visit func(k impl.Known)) {
	total := 1
	for range places {
		total *= 3
	}
	for number := range total {
		k := exact(base)
		for _, place := range places {
			k.Value &^= 1 << place
			switch number % 3 {
			case 1:
				k.Value += 1 << place
			case 2:
				k.Mask += 1 << place
			}
			number /= 3
		}
		visit(k)
	}
}

// The chapter's examples, and what is close to them.
func TestKnownExamples(t *testing.T) {
	checkKnownCases(t, impl.OpAdd, []knownCase{{known(4, 1), known(8, 2), known(12, 3)}, {known(8, 2), known(4, 1), known(12, 3)}})
	a := known(4, 1)
	for n, want := range map[int]bool{3: false, 4: true, 5: true, 6: false, 7: false, 0: false, 1: false, 65535: false} {
		if may, ok := impl.MayBe(a, n); may != want || !ok {
			t.Errorf("MayBe(%v, %d) = %t, %t", a, n, may, ok)
		}
	}
	if n, ok := impl.WaysOf(a); n != 2 || !ok {
		t.Errorf("WaysOf(%v) = %d, %t", a, n, ok)
	}
	for i, want := range []int{4, 5} {
		if n, ok := impl.NumberAt(a, i); n != want || !ok {
			t.Errorf("NumberAt(%v, %d) = %d, %t", a, i, n, ok)
		}
	}
}

// Promise 10: all pairs of Knowns of the edges, all pairs of words where few
// bits are unknown.
func TestEveryOperationOnEdgeKnowns(t *testing.T) {
	g := lcg(1001)
	l := edgeKnowns()
	words := make([][]int, len(l))
	for i, k := range l {
		words[i] = telling(&g, k)
	}
	for i, a := range l {
		for j := range i + 1 {
			checkAllOps(t, a, l[j], words[i], words[j])
		}
	}
}

// Promise 10: Knowns that are drawn.
func TestEveryOperationOnSomeKnowns(t *testing.T) {
	g := lcg(1002)
	few, many := 0, 0
	for range 5000 {
		a, b := someKnown(&g), someKnown(&g)
		checkAllOps(t, a, b, telling(&g, a), telling(&g, b))
		if k, _ := impl.DoKnown(impl.OpAdd, a, b); k == noneKnown {
			many++
		} else if k.Mask != 0 {
			few++
		}
	}
	if few < 2000 || many < 50 {
		t.Errorf("%d sums have some known bits, %d have none", few, many)
	}
}

// Promise 10: all words of Knowns with many unknown bits beside single words
// and Knowns of few unknown bits.
func TestOperationsOfManyMatchingWords(t *testing.T) {
	pairs := [][2]impl.Known{
		{noneKnown, exact(0)}, {noneKnown, exact(65535)}, {noneKnown, exact(1)},
		{known(1, 65534), known(0, 1)}, {known(0, 21845), known(0, 43690)},
		{known(43690, 21845), known(43690, 21845)}, {known(0, 255), known(65280, 255)}, {known(32768, 255), known(255, 65280)},
	}
	for _, p := range pairs {
		checkAllOps(t, p[0], p[1], matching(p[0]), matching(p[1]))
	}
}

// A setting has the known bits around those that vary.
type setting struct {
	a, b   int
	places []int
}

// Promise 10: all Knowns of four bits, all pairs of words. No bit may be unknown
// that is the same for all of them.
func TestAllKnownsOfFewBits(t *testing.T) {
	low, middle, high := []int{0, 1, 2, 3}, []int{6, 7, 8, 9}, []int{12, 13, 14, 15}
	settings := []setting{
		{0, 0, low}, {0, 0, middle}, {0, 0, high}, {0, 0, []int{0, 1, 14, 15}}, {0, 0, []int{0, 7, 8, 15}},
		// A carry runs over ones of one side, or over zeros if it is a borrow.
		{65520, 0, low}, {0, 65520, low}, {21840, 43680, low}, {4080, 0, low}, {0, 2032, low}, {65535, 0, []int{0, 1, 8, 9}},
		{65535, 0, []int{0, 5, 10, 15}}, {0, 0, []int{0, 5, 10, 15}}, {64512, 0, middle}, {0, 64512, middle},
		// Ones of both sides make a carry of their own.
		{65520, 65520, low}, {65535, 65535, middle}, {4112, 4112, low}, {65535, 65535, []int{1, 4, 9, 14}},
		// A carry comes from known bits below.
		{63, 1, middle}, {64575, 1, middle}, {0, 1, middle}, {0, 64513, middle}, {4095, 1, high}, {0, 1, high}, {1, 1, []int{1, 2, 3, 4}},
	}
	for _, f := range settings {
		eachKnownAt(f.a, f.places, func(a impl.Known) {
			xs := matching(a)
			eachKnownAt(f.b, f.places, func(b impl.Known) {
				ys := matching(b)
				checkMatches(t, impl.OpAdd, a, b, xs, ys)
				checkMatches(t, impl.OpSub, a, b, xs, ys)
			})
		})
	}
	for _, places := range [][]int{{0, 1, 2}, {3, 7, 8}, {13, 14, 15}} {
		for _, base := range []int{0, 21845, 65535} {
			eachKnownAt(base, places, func(a impl.Known) {
				eachKnownAt(0, places, func(b impl.Known) { checkAllOps(t, a, b, matching(a), matching(b)) })
			})
		}
	}
}

// A carry of one unknown bit runs over each number of known bits above it, up
// to the highest and out of it.
func TestCarriesOfOneUnknownBit(t *testing.T) {
	for place := range 16 {
		for end := place; end <= 16; end++ {
			run, unknown := 1<<end-1<<place, 1<<place
			all := 1<<min(end+1, 16) - 1<<place
			// One more makes the run zeros, and the bit above it 1.
			checkKnownCases(t, impl.OpAdd, []knownCase{{exact(run), known(0, unknown), known(0, all)}})
			// One less makes the bit above the run 0, and the run ones.
			checkKnownCases(t, impl.OpSub, []knownCase{{exact(1 << end & 65535), known(0, unknown), known(0, all)}})
		}
	}
}

// knownCase is a result of DoKnown, written out by hand.
type knownCase struct{ a, b, want impl.Known }

func checkKnownCases(t *testing.T, op int, cases []knownCase) {
	t.Helper()
	for _, c := range cases {
		if k, ok := impl.DoKnown(op, c.a, c.b); k != c.want || !ok {
			t.Errorf("DoKnown(%d, %v, %v) = %v, %t, want %v, true", op, c.a, c.b, k, ok, c.want)
		}
	}
}

func TestSumsOfKnowns(t *testing.T) {
	x := pattern("x")
	checkKnownCases(t, impl.OpAdd, []knownCase{
		// All bits are known.
		{exact(3), exact(5), exact(8)},
		{exact(0), exact(0), exact(0)},
		{exact(65535), exact(1), exact(0)},
		{exact(65535), exact(65535), exact(65534)},
		{exact(32768), exact(32768), exact(0)},
		{exact(40000), exact(30000), exact(4464)},
		// No carry is unknown.
		{exact(0), x, x},
		{exact(2), x, pattern("1x")},
		{exact(65534), x, known(65534, 1)},
		{pattern("x01"), pattern("x010"), pattern("xx11")},
		{pattern("1x0"), pattern("00x"), pattern("1xx")},
		{known(0, 21845), exact(43690), known(43690, 21845)},
		{known(0, 21845), known(0, 43690), noneKnown},
		{noneKnown, exact(0), noneKnown},
		// A carry is unknown and runs up to a bit above.
		{exact(1), x, pattern("xx")},
		{x, x, pattern("xx")},
		{exact(4), pattern("x00"), pattern("xx00")},
		{exact(7), x, pattern("xxxx")},
		{pattern("10111"), x, pattern("1xxxx")},
		{pattern("11"), pattern("1x"), pattern("1xx")},
		{pattern("1x"), pattern("1x"), pattern("1xx")},
		{pattern("101x1"), pattern("1"), pattern("1xxx0")},
		// It runs up to the highest bit.
		{exact(32767), x, noneKnown},
		{known(32766, 1), exact(1), noneKnown},
		{exact(32764), pattern("x10"), known(2, 65532)},
		{pattern("0111111111110100"), pattern("x100"), pattern("xxxxxxxxxxxxx000")},
		// It runs out of it.
		{exact(65535), x, noneKnown},
		{exact(65535), pattern("1x"), pattern("xx")},
		{exact(32768), known(0, 32768), known(0, 32768)},
		{known(0, 32768), known(0, 32768), known(0, 32768)},
		{known(32768, 1), known(32768, 1), pattern("xx")},
		{known(65532, 1), pattern("10x"), pattern("xx")},
		{known(61440, 3840), known(4096, 256), known(0, 7936)},
		{noneKnown, exact(1), noneKnown},
		{noneKnown, noneKnown, noneKnown},
	})
}

func TestDifferencesOfKnowns(t *testing.T) {
	x := pattern("x")
	checkKnownCases(t, impl.OpSub, []knownCase{
		// All bits are known.
		{exact(5), exact(3), exact(2)},
		{exact(3), exact(5), exact(65534)},
		{exact(0), exact(0), exact(0)},
		{exact(0), exact(1), exact(65535)},
		{exact(0), exact(65535), exact(1)},
		{exact(30000), exact(40000), exact(55536)},
		// No borrow is unknown.
		{x, exact(0), x},
		{exact(1), x, x},
		{exact(3), pattern("x0"), pattern("x1")},
		{exact(65535), x, known(65534, 1)},
		{exact(65535), known(0, 21845), known(43690, 21845)},
		{exact(65535), noneKnown, noneKnown},
		{pattern("x11"), pattern("x1"), pattern("xx0")},
		{pattern("11x"), pattern("10"), pattern("10x")},
		{noneKnown, exact(0), noneKnown},
		// A borrow is unknown and runs up to a bit above.
		{pattern("1x"), exact(1), pattern("xx")},
		{exact(2), x, pattern("xx")},
		{exact(8), x, pattern("xxxx")},
		{exact(24), x, pattern("1xxxx")},
		{pattern("100"), pattern("1x"), pattern("xx")},
		{pattern("10x1"), pattern("11"), pattern("xxx0")},
		{pattern("110x"), pattern("1x"), pattern("10xx")},
		// It runs up to the highest bit.
		{exact(32768), x, noneKnown},
		{known(32768, 1), exact(1), noneKnown},
		{exact(32770), pattern("x10"), known(0, 65532)},
		// It runs out of it.
		{exact(0), x, noneKnown},
		{x, exact(1), noneKnown},
		{x, x, noneKnown},
		{pattern("1x"), pattern("1x"), noneKnown},
		{known(0, 32768), exact(32768), known(0, 32768)},
		{known(0, 32768), known(0, 32768), known(0, 32768)},
		{exact(0), known(0, 32768), known(0, 32768)},
		{exact(0), pattern("x000"), known(0, 65528)},
		// The difference wraps around whatever the bits are.
		{pattern("10x"), pattern("10x0"), known(65528, 7)},
		{exact(0), pattern("1x"), known(65532, 3)},
		{x, pattern("1x"), known(65532, 3)},
		{noneKnown, exact(1), noneKnown},
		{noneKnown, noneKnown, noneKnown},
	})
}

// All nine pairs of a bit, side by side and at each place.
func TestBitwiseKnowns(t *testing.T) {
	a, b := "000111xxx", "01x01x01x"
	results := map[int]string{impl.OpAnd: "00001x0xx", impl.OpOr: "01x111x1x", impl.OpXor: "01x10xxxx"}
	for op, want := range results {
		checkKnownCases(t, op, []knownCase{{pattern(a), pattern(b), pattern(want)}})
		for i := range want {
			for place := range 16 {
				var l [3]impl.Known
				for j, text := range []string{a, b, want} {
					k := pattern(text[i : i+1])
					l[j] = known(k.Value<<place, k.Mask<<place)
				}
				checkKnownCases(t, op, []knownCase{{l[0], l[1], l[2]}})
			}
		}
	}
	checkKnownCases(t, impl.OpAnd, []knownCase{
		{noneKnown, exact(0), exact(0)}, {noneKnown, exact(65535), noneKnown}, {noneKnown, noneKnown, noneKnown},
		{noneKnown, known(21845, 2048), known(0, 23893)}, {exact(65280), exact(4660), exact(4608)},
	})
	checkKnownCases(t, impl.OpOr, []knownCase{
		{noneKnown, exact(0), noneKnown}, {noneKnown, exact(65535), exact(65535)}, {noneKnown, noneKnown, noneKnown},
		{noneKnown, exact(21845), known(21845, 43690)}, {exact(65280), exact(52), exact(65332)},
	})
	checkKnownCases(t, impl.OpXor, []knownCase{
		{noneKnown, exact(0), noneKnown}, {noneKnown, exact(65535), noneKnown}, {noneKnown, noneKnown, noneKnown},
		{known(0, 21845), exact(65535), known(43690, 21845)}, {exact(65535), exact(4660), exact(60875)},
	})
}

func TestShiftsOfKnowns(t *testing.T) {
	a := known(4, 1)
	checkKnownCases(t, impl.OpShl, []knownCase{
		{a, exact(0), a}, {a, exact(1), known(8, 2)}, {a, exact(15), known(0, 32768)}, {a, exact(16), a}, {a, exact(65535), known(0, 32768)},
		{exact(1), exact(0), exact(1)}, {exact(1), exact(15), exact(32768)}, {exact(3), exact(15), exact(32768)},
		{noneKnown, exact(0), noneKnown}, {noneKnown, exact(1), known(0, 65534)}, {noneKnown, exact(15), known(0, 32768)},
		{noneKnown, exact(16), noneKnown}, {noneKnown, exact(65535), known(0, 32768)}, {noneKnown, exact(65520), noneKnown},
		{known(32768, 16384), exact(1), known(0, 32768)}, {known(32768, 16384), exact(2), exact(0)},
		{known(16384, 32768), exact(1), exact(32768)}, {pattern("1x01"), exact(4), pattern("1x010000")},
		{pattern("1x01"), exact(14), known(16384, 0)}, {pattern("x1"), exact(14), known(16384, 32768)},
	})
	checkKnownCases(t, impl.OpShr, []knownCase{
		{a, exact(0), a}, {a, exact(1), exact(2)}, {a, exact(15), exact(0)}, {a, exact(16), a}, {a, exact(65535), exact(0)},
		{exact(32768), exact(0), exact(32768)}, {exact(32768), exact(15), exact(1)}, {exact(65535), exact(15), exact(1)},
		{noneKnown, exact(0), noneKnown}, {noneKnown, exact(1), known(0, 32767)}, {noneKnown, exact(15), known(0, 1)},
		{noneKnown, exact(16), noneKnown}, {noneKnown, exact(65535), known(0, 1)}, {noneKnown, exact(65520), noneKnown},
		{known(32768, 1), exact(1), exact(16384)}, {known(32768, 1), exact(15), exact(1)}, {known(1, 32768), exact(15), known(0, 1)},
		{pattern("1x01"), exact(2), pattern("1x")}, {pattern("1x010000"), exact(20), pattern("1x01")},
	})
}

// One unknown bit of the distance is enough, even where it does not matter.
func TestShiftsByUnknownDistances(t *testing.T) {
	for _, op := range []int{impl.OpShl, impl.OpShr} {
		for _, a := range []impl.Known{exact(0), exact(1), exact(65535), known(4, 1), noneKnown} {
			for place := range 16 {
				bit := 1 << place
				for _, b := range []impl.Known{known(0, bit), known(65535-bit, bit), known(32&^bit, bit)} {
					checkKnownCases(t, op, []knownCase{{a, b, noneKnown}})
				}
			}
			checkKnownCases(t, op, []knownCase{{a, noneKnown, noneKnown}, {a, known(1, 65534), noneKnown}})
		}
	}
}

// Every distance is taken modulo 16.
func TestEveryDistanceOfKnowns(t *testing.T) {
	for distance := range 65536 {
		for _, a := range []impl.Known{known(40001, 16386), known(0, 21845)} {
			checkKnown(t, impl.OpShl, a, exact(distance))
			checkKnown(t, impl.OpShr, a, exact(distance))
		}
	}
}

func TestProductsAndQuotientsOfKnowns(t *testing.T) {
	cases := []struct{ a, b, product, quotient, remainder int }{
		{6, 7, 42, 0, 6},
		{7, 2, 14, 3, 1},
		{7, 0, 0, 0, 7},
		{0, 7, 0, 0, 0},
		{0, 0, 0, 0, 0},
		{65535, 0, 0, 0, 65535},
		{65535, 1, 65535, 65535, 0},
		{256, 256, 0, 1, 0},
		{65535, 65535, 1, 1, 0},
		{65535, 256, 65280, 255, 255},
		{300, 437, 28, 0, 300},
	}
	for _, c := range cases {
		wants := map[int]int{impl.OpMul: c.product, impl.OpDiv: c.quotient, impl.OpMod: c.remainder}
		for op, want := range wants {
			checkKnownCases(t, op, []knownCase{{exact(c.a), exact(c.b), exact(want)}})
			for place := range 16 {
				bit := 1 << place
				a, b := known(c.a&^bit, bit), known(c.b&^bit, bit)
				checkKnownCases(t, op, []knownCase{{a, exact(c.b), noneKnown}, {exact(c.a), b, noneKnown}, {a, b, noneKnown}})
			}
			checkKnownCases(t, op, []knownCase{{noneKnown, exact(c.b), noneKnown}, {exact(c.a), noneKnown, noneKnown}})
		}
	}
}

// checkNumbers compares MayBe, WaysOf and NumberAt with the matching words.
func checkNumbers(t *testing.T, k impl.Known) {
	t.Helper()
	words := matching(k)
	if ways, ok := impl.WaysOf(k); ways != len(words) || !ok {
		t.Fatalf("WaysOf(%v) = %d, %t, %d words match", k, ways, ok, len(words))
	}
	for i, want := range words {
		if n, ok := impl.NumberAt(k, i); n != want || !ok {
			t.Fatalf("NumberAt(%v, %d) = %d, %t, want %d, true", k, i, n, ok, want)
		}
	}
	matches := 0
	for n := range 65536 {
		want := matches < len(words) && words[matches] == n
		if may, ok := impl.MayBe(k, n); may != want || !ok {
			t.Fatalf("MayBe(%v, %d) = %t, %t, want %t, true", k, n, may, ok, want)
		}
		if want {
			matches++
		}
	}
}

func TestNumbersOfKnowns(t *testing.T) {
	g := lcg(1003)
	for _, k := range edgeKnowns() {
		checkNumbers(t, k)
	}
	for range 100 {
		checkNumbers(t, someKnown(&g))
	}
}

func TestNumbersOfKnownsByHand(t *testing.T) {
	cases := []struct {
		k                         impl.Known
		ways, first, middle, last int
	}{
		{exact(0), 1, 0, 0, 0},
		{exact(65535), 1, 65535, 65535, 65535},
		{known(0, 1), 2, 0, 1, 1},
		{known(65534, 1), 2, 65534, 65535, 65535},
		{known(0, 32768), 2, 0, 32768, 32768},
		{pattern("1x0x"), 4, 8, 12, 13},
		{known(0, 32769), 4, 0, 32768, 32769},
		{known(16384, 32770), 4, 16384, 49152, 49154},
		{known(0, 21845), 256, 0, 16384, 21845},
		{known(21845, 43690), 256, 21845, 54613, 65535},
		{known(32768, 32767), 32768, 32768, 49152, 65535},
		{known(1, 65534), 32768, 1, 32769, 65535},
		{noneKnown, 65536, 0, 32768, 65535},
	}
	for _, c := range cases {
		if ways, ok := impl.WaysOf(c.k); ways != c.ways || !ok {
			t.Errorf("WaysOf(%v) = %d, %t, want %d, true", c.k, ways, ok, c.ways)
		}
		for i, want := range map[int]int{0: c.first, c.ways / 2: c.middle, c.ways - 1: c.last} {
			if n, ok := impl.NumberAt(c.k, i); n != want || !ok {
				t.Errorf("NumberAt(%v, %d) = %d, %t, want %d, true", c.k, i, n, ok, want)
			}
			if may, ok := impl.MayBe(c.k, want); !may || !ok {
				t.Errorf("MayBe(%v, %d) = %t, %t", c.k, want, may, ok)
			}
		}
	}
}

// checkPairOfKnowns compares JoinKnown and MeetKnown with the words that match.
func checkPairOfKnowns(t *testing.T, a, b impl.Known) {
	t.Helper()
	xs, ys := matching(a), matching(b)
	joined, ok := impl.JoinKnown(a, b)
	if want := wantOf(slices.Concat(xs, ys)); joined != want || !ok {
		t.Fatalf("JoinKnown(%v, %v) = %v, %t, want %v, true", a, b, joined, ok, want)
	}
	var both []int
	for _, n := range xs {
		if wantMatch(b, n) {
			both = append(both, n)
		}
	}
	met, ok := impl.MeetKnown(a, b)
	if want := wantOf(both); met != want || ok != (len(both) > 0) {
		t.Fatalf("MeetKnown(%v, %v) = %v, %t, want %v, %t", a, b, met, ok, want, len(both) > 0)
	}
	if ok && !slices.Equal(matching(met), both) {
		t.Fatalf("MeetKnown(%v, %v) = %v: not the words that match both", a, b, met)
	}
}

func TestAllPairsOfKnownsOfFewBits(t *testing.T) {
	for _, places := range [][]int{{0, 1, 2}, {0, 7, 15}, {13, 14, 15}} {
		for _, base := range []int{0, 21845, 65535} {
			eachKnownAt(base, places, func(a impl.Known) {
				eachKnownAt(base, places, func(b impl.Known) { checkPairOfKnowns(t, a, b) })
				eachKnownAt(0, places, func(b impl.Known) { checkPairOfKnowns(t, a, b) })
			})
		}
	}
}

func TestPairsOfSomeKnowns(t *testing.T) {
	g := lcg(1004)
	met, apart := 0, 0
	for range 3000 {
		a := someKnown(&g)
		b := someKnown(&g)
		if g.below(2) == 0 {
			// The bits that both know are alike.
			b.Value = a.Value &^ b.Mask
		}
		if g.below(4) == 0 {
			b.Value ^= 1 << g.below(16) &^ b.Mask
		}
		checkPairOfKnowns(t, a, b)
		if _, ok := impl.MeetKnown(a, b); ok {
			met++
		} else {
			apart++
		}
	}
	if met < 500 || apart < 500 {
		t.Errorf("%d pairs have a common word, %d have none", met, apart)
	}
}

func TestPairsOfKnownsByHand(t *testing.T) {
	none := impl.Known{}
	cases := []struct {
		a, b, join, meet impl.Known
		meets            bool
	}{
		// Equal ones.
		{exact(4), exact(4), exact(4), exact(4), true},
		{known(4, 1), known(4, 1), known(4, 1), known(4, 1), true},
		{exact(0), exact(0), exact(0), exact(0), true},
		{exact(65535), exact(65535), exact(65535), exact(65535), true},
		{noneKnown, noneKnown, noneKnown, noneKnown, true},
		// Known bits contradict.
		{exact(4), exact(6), known(4, 2), none, false},
		{exact(6), exact(4), known(4, 2), none, false},
		{exact(0), exact(1), known(0, 1), none, false},
		{exact(0), exact(32768), known(0, 32768), none, false},
		{exact(0), exact(65535), noneKnown, none, false},
		{exact(21845), exact(43690), noneKnown, none, false},
		{known(4, 1), exact(0), known(0, 5), none, false},
		{known(4, 1), exact(6), known(4, 3), none, false},
		{pattern("1x0"), pattern("0x1"), pattern("xxx"), none, false},
		{known(32768, 32767), known(0, 32767), noneKnown, none, false},
		{known(32767, 32768), known(0, 32769), noneKnown, none, false},
		// One is within the other.
		{known(4, 1), exact(4), known(4, 1), exact(4), true},
		{exact(5), known(4, 1), known(4, 1), exact(5), true},
		{known(4, 3), known(4, 1), known(4, 3), known(4, 1), true},
		{noneKnown, exact(0), noneKnown, exact(0), true},
		{exact(65535), noneKnown, noneKnown, exact(65535), true},
		{noneKnown, known(4, 1), noneKnown, known(4, 1), true},
		// Each knows a bit that the other does not.
		{known(4, 1), known(4, 2), known(4, 3), exact(4), true},
		{pattern("1x0"), pattern("10x"), pattern("1xx"), exact(4), true},
		{pattern("1xx"), pattern("x1x"), pattern("xxx"), pattern("11x"), true},
		{known(0, 21845), known(0, 43690), noneKnown, exact(0), true},
		{known(43690, 21845), known(21845, 43690), noneKnown, exact(65535), true},
		{known(32768, 32767), known(1, 65534), noneKnown, known(32769, 32766), true},
	}
	for _, c := range cases {
		if k, ok := impl.JoinKnown(c.a, c.b); k != c.join || !ok {
			t.Errorf("JoinKnown(%v, %v) = %v, %t, want %v, true", c.a, c.b, k, ok, c.join)
		}
		if k, ok := impl.MeetKnown(c.a, c.b); k != c.meet || ok != c.meets {
			t.Errorf("MeetKnown(%v, %v) = %v, %t, want %v, %t", c.a, c.b, k, ok, c.meet, c.meets)
		}
	}
}

func checkKnownOf(t *testing.T, l []int, want impl.Known) {
	t.Helper()
	if k, ok := impl.KnownOf(l); k != want || !ok {
		t.Fatalf("KnownOf(%v) = %v, %t, want %v, true", l, k, ok, want)
	}
}

func TestKnownOfValues(t *testing.T) {
	checkKnownOf(t, []int{4, 6}, known(4, 2))
	checkKnownOf(t, []int{6, 4}, known(4, 2))
	checkKnownOf(t, []int{0}, exact(0))
	checkKnownOf(t, []int{65535}, exact(65535))
	checkKnownOf(t, []int{0, 65535}, noneKnown)
	checkKnownOf(t, []int{21845, 43690}, noneKnown)
	checkKnownOf(t, []int{0, 0}, exact(0))
	checkKnownOf(t, []int{1, 2, 4}, known(0, 7))
	checkKnownOf(t, []int{9, 10, 12}, known(8, 7))
	checkKnownOf(t, []int{5, 7, 13}, known(5, 10))
	checkKnownOf(t, []int{32768, 32769, 49152}, known(32768, 16385))
	for _, n := range edgeWords {
		checkKnownOf(t, []int{n}, exact(n))
		checkKnownOf(t, []int{n, n}, exact(n))
		checkKnownOf(t, []int{n, 65535 - n}, noneKnown)
		for place := range 16 {
			bit := 1 << place
			checkKnownOf(t, []int{n, n ^ bit}, known(n&^bit, bit))
			checkKnownOf(t, []int{n, n, n ^ bit, n}, known(n&^bit, bit))
		}
	}
}

// Lists of all lengths, of which one word at each place differs from the others.
func TestKnownOfLengths(t *testing.T) {
	for size := 1; size <= 40; size++ {
		for _, n := range []int{0, 4660, 65535} {
			l := slices.Repeat([]int{n}, size)
			checkKnownOf(t, l, exact(n))
			for i := range l {
				if size == 1 {
					continue
				}
				l[i] = n ^ 256
				checkKnownOf(t, l, known(n&^256, 256))
				l[i] = 65535 - n
				checkKnownOf(t, l, noneKnown)
				l[i] = n
			}
		}
	}
}

// KnownOf beside looking at each bit, and beside JoinKnown of the single words.
func TestKnownOfSomeWords(t *testing.T) {
	g := lcg(1005)
	for i := range 6000 {
		l := make([]int, []int{1, 2, 3, 5, 39, 40}[i%6])
		from := someKnown(&g)
		for j := range l {
			l[j] = from.Value | g.below(65536)&from.Mask
		}
		checkKnownOf(t, l, wantOf(l))
		joined := exact(l[0])
		for _, n := range l[1:] {
			joined, _ = impl.JoinKnown(joined, exact(n))
		}
		checkKnownOf(t, l, joined)
	}
}

func TestGoodKnown(t *testing.T) {
	for _, k := range append(edgeKnowns(), exact(0), noneKnown, exact(65535)) {
		if !impl.GoodKnown(k) {
			t.Errorf("GoodKnown(%v) = false", k)
		}
	}
	for _, k := range badKnowns() {
		if impl.GoodKnown(k) {
			t.Errorf("GoodKnown(%v) = true", k)
		}
	}
	numbers := slices.Concat(edgeWords, nonWords)
	for _, value := range numbers {
		for _, mask := range numbers {
			if k := known(value, mask); impl.GoodKnown(k) != wantGoodKnown(k) {
				t.Errorf("GoodKnown(%v) = %t", k, !wantGoodKnown(k))
			}
		}
	}
}

// badKnowns have a number that is no word, or a 1 bit in common.
func badKnowns() []impl.Known {
	l := []impl.Known{
		known(1, 1), known(32768, 32768), known(65535, 65535), known(5, 4), known(3, 6), known(65535, 1), known(1, 65535),
		known(32768, 65535), known(65535, 32768), known(21845, 21845), known(43690, 65535), known(65534, 3),
		known(-1, -1), known(65536, 65536), known(-1, 65536), known(65536, -1), known(-65536, 65535), known(65535, -65536),
		known(math.MinInt, math.MaxInt), known(math.MaxInt, math.MinInt), known(1<<32, 1), known(1, 1<<32), known(4, 1<<62), known(1<<62, 4),
	}
	for _, n := range nonWords {
		l = append(l, known(n, 0), known(0, n), known(n, 65535), known(65535, n), known(n, 4), known(4, n))
	}
	for place := range 16 {
		l = append(l, known(1<<place, 1<<place))
	}
	return l
}

// wantZeroKnown is for a Known that is not valid.
func wantZeroKnown(t *testing.T, k impl.Known) {
	t.Helper()
	if ways, ok := impl.WaysOf(k); ways != 0 || ok {
		t.Errorf("WaysOf(%v) = %d, %t", k, ways, ok)
	}
	for _, n := range []int{k.Value, k.Mask, k.Value | k.Mask, 0, 1, 4, 5, 32768, 65535, -1, 65536} {
		if may, ok := impl.MayBe(k, n); may || ok {
			t.Errorf("MayBe(%v, %d) = %t, %t", k, n, may, ok)
		}
		wantZeroNumber(t, k, n)
	}
}

func wantZeroNumber(t *testing.T, k impl.Known, i int) {
	t.Helper()
	if n, ok := impl.NumberAt(k, i); n != 0 || ok {
		t.Errorf("NumberAt(%v, %d) = %d, %t", k, i, n, ok)
	}
}

// wantZeroKnowns is for two Knowns of which one is not valid.
func wantZeroKnowns(t *testing.T, a, b impl.Known) {
	t.Helper()
	none := impl.Known{}
	for _, op := range allOps {
		if k, ok := impl.DoKnown(op, a, b); k != none || ok {
			t.Errorf("DoKnown(%d, %v, %v) = %v, %t", op, a, b, k, ok)
		}
	}
	if k, ok := impl.JoinKnown(a, b); k != none || ok {
		t.Errorf("JoinKnown(%v, %v) = %v, %t", a, b, k, ok)
	}
	if k, ok := impl.MeetKnown(a, b); k != none || ok {
		t.Errorf("MeetKnown(%v, %v) = %v, %t", a, b, k, ok)
	}
}

// Promise 19: Knowns that are not valid, as each argument of each function.
func TestBadKnowns(t *testing.T) {
	bad := badKnowns()
	for _, k := range bad {
		wantZeroKnown(t, k)
		for _, good := range []impl.Known{exact(0), exact(1), known(4, 1), known(0, 32768), exact(65535), known(43690, 21845), noneKnown} {
			wantZeroKnowns(t, k, good)
			wantZeroKnowns(t, good, k)
		}
		for _, other := range bad {
			wantZeroKnowns(t, k, other)
		}
	}
}

// Promise 19: numbers that are no words.
func TestNonWordsOfKnowns(t *testing.T) {
	for _, n := range nonWords {
		for _, k := range edgeKnowns() {
			if may, ok := impl.MayBe(k, n); may || ok {
				t.Errorf("MayBe(%v, %d) = %t, %t", k, n, may, ok)
			}
		}
	}
}

// Promise 19: words that are not there.
func TestNumbersBehindTheLast(t *testing.T) {
	for _, k := range edgeKnowns() {
		ways := len(matching(k))
		for _, i := range []int{-1, -2, -ways, ways, ways + 1, 2 * ways, 65536, 65537, 1 << 32, -1 << 32, 1 << 62} {
			wantZeroNumber(t, k, i)
		}
		for _, i := range nonWords {
			wantZeroNumber(t, k, i)
		}
	}
}

// Promise 19: operations that are not in the list.
func TestUnknownOperationsOfKnowns(t *testing.T) {
	good := []impl.Known{exact(0), exact(5), known(4, 1), exact(65535), noneKnown}
	for _, op := range append([]int{-10, 12, 65537, math.MaxInt32 + 2}, oddNumbers...) {
		if op >= impl.OpAdd && op <= impl.OpShr {
			continue
		}
		for _, a := range good {
			for _, b := range append(badKnowns(), good...) {
				for _, x := range [][2]impl.Known{{a, b}, {b, a}} {
					if k, ok := impl.DoKnown(op, x[0], x[1]); k != (impl.Known{}) || ok {
						t.Fatalf("DoKnown(%d, %v, %v) = %v, %t", op, x[0], x[1], k, ok)
					}
				}
			}
		}
	}
}

func wantZeroKnownOf(t *testing.T, l []int) {
	t.Helper()
	if k, ok := impl.KnownOf(l); k != (impl.Known{}) || ok {
		t.Errorf("KnownOf(%v) = %v, %t", l, k, ok)
	}
}

// Promise 19: lists without words, with too many, and with numbers that are no
// words at each place.
func TestBadListsOfWords(t *testing.T) {
	wantZeroKnownOf(t, nil)
	wantZeroKnownOf(t, []int{})
	wantZeroKnownOf(t, []int{4, 6}[:0])
	for _, size := range []int{41, 42, 80, 1000, 65577} {
		for _, n := range []int{0, 4, 65535} {
			wantZeroKnownOf(t, slices.Repeat([]int{n}, size))
		}
	}
	for _, size := range []int{1, 2, 3, 39, 40, 41} {
		for _, n := range []int{0, 5, 65535} {
			l := slices.Repeat([]int{n}, size)
			for i := range l {
				for _, odd := range nonWords {
					l[i] = odd
					wantZeroKnownOf(t, l)
				}
				l[i] = n
			}
		}
	}
}

// Promise 19: a list is not changed, and what is behind its length is neither
// read nor written.
func TestListsOfWordsAreNotChanged(t *testing.T) {
	g := lcg(1006)
	for range 2000 {
		whole := make([]int, 45)
		for i := range whole {
			whole[i] = g.below(65536)
		}
		size := g.below(45)
		for i := size; i < len(whole); i++ {
			whole[i] = nonWords[g.below(len(nonWords))]
		}
		if size > 0 && g.below(3) == 0 {
			whole[g.below(size)] = nonWords[g.below(len(nonWords))]
		}
		l := whole[:size]
		before := slices.Clone(whole)
		if size >= 1 && size <= 40 && !slices.ContainsFunc(l, func(n int) bool { return slices.Contains(nonWords, n) }) {
			checkKnownOf(t, l, wantOf(l))
		} else {
			wantZeroKnownOf(t, l)
		}
		if !slices.Equal(whole, before) {
			t.Fatalf("KnownOf(%v) changed its list", before[:size])
		}
	}
}

// Promise 19: the functions answer for every number in every place.
func TestKnownsWithOddNumbers(t *testing.T) {
	g := lcg(1007)
	good := 0
	for range 20000 {
		a, b := known(oftenSmall(&g), oftenSmall(&g)), known(oftenSmall(&g), oftenSmall(&g))
		if !wantGoodKnown(a) {
			wantZeroKnown(t, a)
			wantZeroKnowns(t, a, b)
			wantZeroKnowns(t, b, a)
		} else if wantGoodKnown(b) {
			checkAllOps(t, a, b, telling(&g, a), telling(&g, b))
			good++
		}
	}
	if good < 1000 {
		t.Errorf("%d pairs are valid", good)
	}
}
