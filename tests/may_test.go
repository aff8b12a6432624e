package tests

import (
	"fmt"
	"slices"
	"strconv"
	"strings"
	"testing"

	"loop.example/g00605/impl"
)

// An outlook is a May whose lists are arrays, so that it is compared and copied
// as a value.
type outlook struct {
	reg  [6]impl.Stretch
	bits [6]impl.Known
	cell [16]impl.Stretch
	set  [16]bool
}

func (o outlook) may() impl.May {
	return impl.May{Reg: slices.Clone(o.reg[:]), Bits: slices.Clone(o.bits[:]), Cell: slices.Clone(o.cell[:]), Set: slices.Clone(o.set[:])}
}

// isMay reports whether the state has just what the outlook has.
func isMay(m impl.May, o outlook) bool {
	return slices.Equal(m.Reg, o.reg[:]) && slices.Equal(m.Bits, o.bits[:]) && slices.Equal(m.Cell, o.cell[:]) && slices.Equal(m.Set, o.set[:])
}

func isZeroMay(m impl.May) bool {
	return len(m.Reg) == 0 && len(m.Bits) == 0 && len(m.Cell) == 0 && len(m.Set) == 0
}

func startOutlook() outlook {
	o := outlook{}
	for i := range o.cell {
		o.cell[i] = allOfThem
	}
	return o
}

// stretchIn reads 3-10, a word, or a star for all words.
func stretchIn(text string) impl.Stretch {
	if text == "*" {
		return allOfThem
	}
	l := numbersIn(strings.ReplaceAll(text, "-", " "))
	return from(l[0], l[len(l)-1])
}

// knownIn reads a value and a mask, 4/3, or a star where no bit is known.
func knownIn(text string) impl.Known {
	if text == "*" {
		return noneKnown
	}
	l := numbersIn(strings.ReplaceAll(text, "/", " "))
	return known(l[0], l[1])
}

// with returns the outlook with some parts replaced: r0:3-10:0/15 is a register
// with its known bits, r1:7 a register that is exactly that, c2:100-200 a cell
// that is surely set, and c4:0-9? one that is not.
func (o outlook) with(text string) outlook {
	for _, word := range strings.Fields(text) {
		fields := strings.Split(word[1:], ":")
		at, err := strconv.Atoi(fields[0])
		if err != nil {
			panic(err)
		}
		words := stretchIn(strings.TrimSuffix(fields[1], "?"))
		switch {
		case word[0] == 'c':
			o.cell[at], o.set[at] = words, !strings.HasSuffix(word, "?")
		case len(fields) == 2:
			o.reg[at], o.bits[at] = words, exact(words.Lo)
		default:
			o.reg[at], o.bits[at] = words, knownIn(fields[2])
		}
	}
	return o
}

// String writes what differs from the start, as with reads it.
func (o outlook) String() string {
	var words []string
	start := startOutlook()
	for i := range o.reg {
		if o.reg[i] != start.reg[i] || o.bits[i] != start.bits[i] {
			words = append(words, fmt.Sprintf("r%d:%d-%d:%d/%d", i, o.reg[i].Lo, o.reg[i].Hi, o.bits[i].Value, o.bits[i].Mask))
		}
	}
	for i := range o.cell {
		if o.cell[i] != start.cell[i] || o.set[i] {
			words = append(words, fmt.Sprintf("c%d:%d-%d", i, o.cell[i].Lo, o.cell[i].Hi)+map[bool]string{false: "?"}[o.set[i]])
		}
	}
	return strings.Join(words, " ")
}

var opNames = strings.Fields("none add sub mul div mod and or xor shl shr")

// stepIn reads a step as StepText writes it, with names for the operations.
func stepIn(text string) impl.Step {
	words := strings.Fields(text)
	for _, row := range kindRows {
		if row.name != words[0] {
			continue
		}
		var f [5]int
		rest := words[1:]
		for i, r := range row.spans {
			if r == nil {
				continue
			}
			f[i] = slices.Index(opNames, rest[0])
			if f[i] < 0 {
				f[i] = numbersIn(rest[0])[0]
			}
			rest = rest[1:]
		}
		return stepOfFields(row.kind, f)
	}
	panic("no step: " + text)
}

// stepsIn reads steps that are separated by bars.
func stepsIn(text string) []impl.Step {
	var p []impl.Step
	for _, s := range strings.Split(text, "|") {
		p = append(p, stepIn(s))
	}
	return p
}

// wantReduced follows the document's text. It returns false also for the parts
// of a register that no word is in.
func wantReduced(s impl.Stretch, k impl.Known) (impl.Stretch, impl.Known, bool) {
	lo, hi := max(s.Lo, k.Value), min(s.Hi, k.Value+k.Mask)
	if lo < hi {
		return from(lo, hi), k, true
	}
	if lo > hi || !wantMatch(k, lo) {
		return impl.Stretch{}, impl.Known{}, false
	}
	return one(lo), exact(lo), true
}

// becomes gives a register an interval and known bits, reduced where they can be.
func (o outlook) becomes(reg int, s impl.Stretch, k impl.Known) outlook {
	if x, y, ok := wantReduced(s, k); ok {
		s, k = x, y
	}
	o.reg[reg], o.bits[reg] = s, k
	return o
}

// wantNext is the document's table of StepMay.
func wantNext(s impl.Step, o outlook) (outlook, int) {
	a, ka := o.reg[s.Dst], o.bits[s.Dst]
	switch s.Kind {
	case impl.StOp:
		return o.becomes(s.Dst, wantStretch(s.Op, a, o.reg[s.Src]), wantKnown(s.Op, ka, o.bits[s.Src])), 0
	case impl.StOpImm:
		return o.becomes(s.Dst, wantStretch(s.Op, a, one(s.Imm)), wantKnown(s.Op, ka, exact(s.Imm))), 0
	case impl.StSet, impl.StWide:
		o.reg[s.Dst], o.bits[s.Dst] = one(s.Imm), exact(s.Imm)
	case impl.StCtx:
		if o.reg[s.Src].Hi > 7-s.Imm {
			return outlook{}, 1
		}
		o.reg[s.Dst], o.bits[s.Dst] = from(0, 255), pattern("xxxxxxxx")
	case impl.StStore:
		if s.Imm > 15 {
			return outlook{}, 2
		}
		o.cell[s.Imm], o.set[s.Imm] = a, true
	case impl.StLoad:
		if s.Imm > 15 {
			return outlook{}, 2
		}
		if !o.set[s.Imm] {
			return outlook{}, 3
		}
		return o.becomes(s.Dst, o.cell[s.Imm], noneKnown), 0
	}
	return o, 0
}

// wantLeft is the document's table of HeedJump, for other kinds too.
func wantLeft(s impl.Step, o outlook, taken bool) (outlook, bool) {
	a, b := o.reg[s.Dst], o.reg[s.Src]
	x, y := a, b
	possible := true
	switch {
	case s.Kind == impl.StEq && taken:
		x = from(max(a.Lo, b.Lo), min(a.Hi, b.Hi))
		y = x
		ka, kb := o.bits[s.Dst], o.bits[s.Src]
		met := known(ka.Value|kb.Value, ka.Mask&kb.Mask)
		o.bits[s.Dst], o.bits[s.Src] = met, met
		possible = x.Lo <= x.Hi && wantMatch(ka, met.Value) && wantMatch(kb, met.Value)
	case s.Kind == impl.StLess && taken:
		x, y = from(a.Lo, min(a.Hi, b.Hi-1)), from(max(a.Lo+1, b.Lo), b.Hi)
		possible = s.Dst != s.Src && a.Lo < b.Hi
	case s.Kind == impl.StLess && s.Dst != s.Src:
		x, y = from(max(a.Lo, b.Lo), a.Hi), from(b.Lo, min(a.Hi, b.Hi))
		possible = a.Hi >= b.Lo
	}
	if !possible {
		return outlook{}, false
	}
	o.reg[s.Dst], o.reg[s.Src] = x, y
	return o, true
}

func wantJoined(a, b outlook) outlook {
	joined := func(x, y impl.Stretch) impl.Stretch { return from(min(x.Lo, y.Lo), max(x.Hi, y.Hi)) }
	for i := range a.reg {
		x, y := a.bits[i], b.bits[i]
		mask := x.Mask | y.Mask | (x.Value ^ y.Value)
		a.reg[i], a.bits[i] = joined(a.reg[i], b.reg[i]), known(x.Value&^mask, mask)
	}
	for i := range a.cell {
		a.cell[i] = joined(a.cell[i], b.cell[i])
		if !b.set[i] {
			a.set[i] = false
		}
	}
	return a
}

// describes goes through every register and cell.
func (o outlook) describes(x frame) bool {
	for i, n := range x.regs {
		if !wantIn(o.reg[i], int(n)) || !wantMatch(o.bits[i], int(n)) {
			return false
		}
	}
	for i, n := range x.cells {
		if o.set[i] && !x.set[i] || x.set[i] && !wantIn(o.cell[i], int(n)) {
			return false
		}
	}
	return true
}

// A survey is a Report with outlooks.
type survey struct {
	met    []bool
	states []outlook
	bad    []int
}

// wantSurvey looks back from each step at those that lead to it; AnalyseProgram
// goes forward.
func wantSurvey(p []impl.Step) survey {
	v := survey{met: make([]bool, len(p)), states: make([]outlook, len(p))}
	v.met[0], v.states[0] = true, startOutlook()
	for at := range p {
		for ahead := range at {
			v.lead(p, ahead, at)
		}
		if !v.met[at] {
			continue
		}
		if _, code := wantNext(p[at], v.states[at]); code != 0 {
			v.bad = append(v.bad, at)
		}
	}
	return v
}

func (v *survey) lead(p []impl.Step, ahead, at int) {
	s := p[ahead]
	taken := s.To > 0 && ahead+s.To+1 == at
	next := ahead+1 == at && s.Kind != impl.StJump && s.Kind != impl.StExit
	if !v.met[ahead] || slices.Contains(v.bad, ahead) || !taken && !next {
		return
	}
	after, _ := wantNext(s, v.states[ahead])
	left, possible := wantLeft(s, after, taken)
	if !possible {
		return
	}
	if v.met[at] {
		left = wantJoined(v.states[at], left)
	}
	v.met[at], v.states[at] = true, left
}

// checkSurvey compares each part of a Report.
func checkSurvey(t *testing.T, p []impl.Step, want survey) impl.Report {
	t.Helper()
	r, ok := impl.AnalyseProgram(p)
	if !ok || !slices.Equal(r.Met, want.met) || !slices.Equal(r.Bad, want.bad) || len(r.Mays) != len(p) {
		t.Fatalf("AnalyseProgram(%v) = %v, %d Mays, %v, %t, want %v, %v", p, r.Met, len(r.Mays), r.Bad, ok, want.met, want.bad)
	}
	for at, m := range r.Mays {
		if want.met[at] && (!isMay(m, want.states[at]) || !impl.GoodMay(m)) || !want.met[at] && !isZeroMay(m) {
			t.Fatalf("AnalyseProgram(%v): step %d has %v, want %v", p, at, m, want.states[at])
		}
	}
	return r
}

// checkNext compares StepMay with the table.
func checkNext(t *testing.T, s impl.Step, o outlook) (outlook, int) {
	t.Helper()
	want, code := wantNext(s, o)
	wantStepMay(t, s, o, want, code)
	return want, code
}

func wantStepMay(t *testing.T, s impl.Step, o, want outlook, code int) {
	t.Helper()
	m, got, ok := impl.StepMay(s, o.may())
	if got != code || !ok || code == 0 && (!isMay(m, want) || !impl.GoodMay(m)) || code != 0 && !isZeroMay(m) {
		t.Fatalf("StepMay(%+v) of %v = %v, %d, %t, want %v, %d, true", s, o, m, got, ok, want, code)
	}
}

// checkLeft compares HeedJump with the table.
func checkLeft(t *testing.T, s impl.Step, o outlook, taken bool) (outlook, bool) {
	t.Helper()
	want, possible := wantLeft(s, o, taken)
	wantHeedJump(t, s, o, taken, want, possible)
	return want, possible
}

func wantHeedJump(t *testing.T, s impl.Step, o outlook, taken bool, want outlook, possible bool) {
	t.Helper()
	m, got, ok := impl.HeedJump(s, o.may(), taken)
	if got != possible || !ok || possible && (!isMay(m, want) || !impl.GoodMay(m)) || !possible && !isZeroMay(m) {
		t.Fatalf("HeedJump(%+v, taken %t) of %v = %v, %t, %t, want %v, %t, true", s, taken, o, m, got, ok, want, possible)
	}
}

func checkIn(t *testing.T, o outlook, x frame, want bool) {
	t.Helper()
	if in, ok := impl.InMay(o.may(), x.machine()); in != want || !ok {
		t.Fatalf("InMay of %v and %v = %t, %t, want %t, true", o, x, in, ok, want)
	}
}

// someAround returns an interval and known bits that have a word in common.
func someAround(g *lcg, n int) (impl.Stretch, impl.Known) {
	lo, hi := max(0, n-g.below(1<<g.below(17))), min(65535, n+g.below(1<<g.below(17)))
	if g.below(4) == 0 {
		lo, hi = n, n
	}
	mask := someKnown(g).Mask
	return from(lo, hi), known(n&^mask, mask)
}

// someOutlook describes the machine.
func someOutlook(g *lcg, x frame) outlook {
	o := outlook{}
	for i, n := range x.regs {
		o.reg[i], o.bits[i] = someAround(g, int(n))
	}
	for i, n := range x.cells {
		o.cell[i], _ = someAround(g, int(n))
		if !x.set[i] {
			o.cell[i] = someStretch(g)
		}
		o.set[i] = x.set[i] && g.below(4) > 0
	}
	return o
}

// anyOutlook is a state whose parts do not belong together, so that there may be
// no machine that it describes.
func anyOutlook(g *lcg) outlook {
	o := outlook{}
	for i := range o.reg {
		o.reg[i], o.bits[i] = someStretch(g), someKnown(g)
	}
	for i := range o.cell {
		o.cell[i], o.set[i] = someStretch(g), g.below(2) == 0
	}
	return o
}

func someStep(g *lcg) impl.Step {
	row := kindRows[g.below(len(kindRows))]
	var f [5]int
	for i, r := range row.spans {
		if r != nil {
			f[i] = r.lo + g.below(r.hi-r.lo+1)
		}
	}
	if g.below(2) == 0 && row.spans[fieldImm] == byteSpan {
		f[fieldImm] = g.below(18)
	}
	return stepOfFields(row.kind, f)
}

func TestStartMay(t *testing.T) {
	m := impl.StartMay()
	if !isMay(m, startOutlook()) || !impl.GoodMay(m) {
		t.Fatalf("StartMay() = %v", m)
	}
	for i := range 6 {
		if m.Reg[i] != (impl.Stretch{Lo: 0, Hi: 0}) || m.Bits[i] != (impl.Known{Value: 0, Mask: 0}) {
			t.Errorf("register %d starts as %v, %v", i, m.Reg[i], m.Bits[i])
		}
	}
	for i := range 16 {
		if m.Cell[i] != (impl.Stretch{Lo: 0, Hi: 65535}) || m.Set[i] {
			t.Errorf("cell %d starts as %v, %t", i, m.Cell[i], m.Set[i])
		}
	}
	checkIn(t, startOutlook(), frame{}, true)
}

// reducedByWords goes through all words.
func reducedByWords(s impl.Stretch, k impl.Known) (impl.Stretch, impl.Known, bool) {
	var left []int
	for n := range 65536 {
		if n >= s.Lo && n <= s.Hi && n >= k.Value && n <= k.Value+k.Mask {
			if left = append(left, n); len(left) > 2 {
				left[1], left = left[2], left[:2]
			}
		}
	}
	switch {
	case len(left) == 2:
		return from(left[0], left[1]), k, true
	case len(left) == 1 && left[0]&^k.Mask == k.Value:
		return one(left[0]), exact(left[0]), true
	}
	return impl.Stretch{}, impl.Known{}, false
}

// checkReduced compares with the words. What both the interval and the known
// bits allow, the results allow too.
func checkReduced(t *testing.T, s impl.Stretch, k impl.Known) bool {
	t.Helper()
	wantS, wantK, possible := reducedByWords(s, k)
	if x, y, ok := wantReduced(s, k); x != wantS || y != wantK || ok != possible {
		t.Fatalf("the tests disagree on %v and %v: %v, %v, %t and %v, %v, %t", s, k, x, y, ok, wantS, wantK, possible)
	}
	gotS, gotK, ok := impl.ReduceBoth(s, k)
	if gotS != wantS || gotK != wantK || ok != possible {
		t.Fatalf("ReduceBoth(%v, %v) = %v, %v, %t, want %v, %v, %t", s, k, gotS, gotK, ok, wantS, wantK, possible)
	}
	for n := s.Lo; n <= s.Hi; n++ {
		if n&^k.Mask == k.Value && (!ok || !wantIn(gotS, n) || n&^gotK.Mask != gotK.Value) {
			t.Fatalf("ReduceBoth(%v, %v) = %v, %v, %t does not allow %d", s, k, gotS, gotK, ok, n)
		}
	}
	return ok
}

// Intervals and known bits refine each other.
func TestReduceBothOfEdges(t *testing.T) {
	var l []impl.Known
	for i, k := range edgeKnowns() {
		if i < 50 || i%4 == 0 {
			l = append(l, k)
		}
	}
	possible, not := 0, 0
	for _, s := range edgeStretches() {
		for _, k := range l {
			if checkReduced(t, s, k) {
				possible++
			} else {
				not++
			}
		}
	}
	if possible < 500 || not < 500 {
		t.Errorf("possible %d times, not possible %d times", possible, not)
	}
}

func TestReduceBothOfSomeWords(t *testing.T) {
	g := lcg(1301)
	for range 1500 {
		n := g.below(65536)
		s, k := someAround(&g, n)
		if !checkReduced(t, s, k) {
			t.Fatalf("ReduceBoth(%v, %v) returns false, but %d is in both", s, k, n)
		}
		checkReduced(t, someStretch(&g), someKnown(&g))
		checkReduced(t, s, someKnown(&g))
	}
}

// All intervals and all Knowns of four bits, at both ends of the words.
func TestReduceBothOfFewBits(t *testing.T) {
	for _, base := range []int{0, 65520} {
		var l []impl.Known
		eachKnownAt(base, []int{0, 1, 2, 3}, func(k impl.Known) { l = append(l, k) })
		eachStretch(base, base+15, func(s impl.Stretch) {
			for _, k := range l {
				wantS, wantK, possible := wantReduced(s, k)
				if x, y, ok := impl.ReduceBoth(s, k); x != wantS || y != wantK || ok != possible {
					t.Fatalf("ReduceBoth(%v, %v) = %v, %v, %t, want %v, %v, %t", s, k, x, y, ok, wantS, wantK, possible)
				}
			}
		})
	}
}

func TestReduceBothByHand(t *testing.T) {
	none, nothing := impl.Stretch{}, impl.Known{}
	cases := []struct {
		s     impl.Stretch
		k     impl.Known
		wantS impl.Stretch
		wantK impl.Known
		ok    bool
	}{
		{from(0, 10), known(4, 1), from(4, 5), known(4, 1), true},
		{from(0, 10), known(4, 3), from(4, 7), known(4, 3), true},
		{from(5, 6), known(4, 3), from(5, 6), known(4, 3), true},
		{from(0, 10), known(8, 7), from(8, 10), known(8, 7), true},
		{from(13, 99), known(8, 7), from(13, 15), known(8, 7), true},
		// Both ends need not match.
		{from(5, 9), known(0, 10), from(5, 9), known(0, 10), true},
		// Two words, none of which matches.
		{from(5, 6), known(0, 8), from(5, 6), known(0, 8), true},
		// One word that matches.
		{from(0, 4), known(4, 3), one(4), exact(4), true},
		{from(7, 9), known(4, 3), one(7), exact(7), true},
		{one(6), known(4, 3), one(6), exact(6), true},
		{one(6), noneKnown, one(6), exact(6), true},
		{from(0, 99), exact(7), one(7), exact(7), true},
		{one(0), exact(0), one(0), exact(0), true},
		{one(65535), exact(65535), one(65535), exact(65535), true},
		{one(0), noneKnown, one(0), exact(0), true},
		{one(65535), noneKnown, one(65535), exact(65535), true},
		{allOfThem, exact(0), one(0), exact(0), true},
		{allOfThem, exact(65535), one(65535), exact(65535), true},
		{from(0, 32768), known(32768, 32767), one(32768), exact(32768), true},
		{from(32767, 65535), known(0, 32767), one(32767), exact(32767), true},
		// One word that does not match.
		{one(5), known(4, 2), none, nothing, false},
		{one(5), known(0, 8), none, nothing, false},
		{one(32767), known(0, 32768), none, nothing, false},
		{one(65534), known(1, 65534), none, nothing, false},
		// No word.
		{from(0, 3), known(4, 1), none, nothing, false},
		{from(6, 10), known(4, 1), none, nothing, false},
		{one(0), exact(65535), none, nothing, false},
		{one(65535), exact(0), none, nothing, false},
		{from(0, 32767), known(32768, 32767), none, nothing, false},
		{from(8, 65535), known(0, 7), none, nothing, false},
		// Nothing new.
		{allOfThem, noneKnown, allOfThem, noneKnown, true},
		{from(0, 65534), noneKnown, from(0, 65534), noneKnown, true},
		{from(1, 65535), noneKnown, from(1, 65535), noneKnown, true},
		{allOfThem, known(1, 65534), from(1, 65535), known(1, 65534), true},
		{allOfThem, known(0, 65534), from(0, 65534), known(0, 65534), true},
		{allOfThem, known(256, 255), from(256, 511), known(256, 255), true},
	}
	for _, c := range cases {
		s, k, ok := impl.ReduceBoth(c.s, c.k)
		if s != c.wantS || k != c.wantK || ok != c.ok {
			t.Errorf("ReduceBoth(%v, %v) = %v, %v, %t, want %v, %v, %t", c.s, c.k, s, k, ok, c.wantS, c.wantK, c.ok)
		}
		checkReduced(t, c.s, c.k)
	}
}

// middle is a state with a register for each use: of several words, exactly 7,
// a byte, of which some bits are known, of which nothing is known, exactly 0.
func middle() outlook {
	return startOutlook().with("r0:3-10:0/15 r1:7 r2:0-255:0/255 r3:8-11:8/3 r4:*:* r5:0 c2:100-200 c4:0-9? c7:40-41 c15:5")
}

// A mayCase has a step, and what it changes in the state.
type mayCase struct{ step, change string }

var operationCases = []mayCase{
	{"op add 0 1", "r0:10-17:0/31"}, {"op add 3 1", "r3:15-18:0/31"}, {"op add 1 3", "r1:15-18:0/31"}, {"op add 1 1", "r1:14"},
	{"op add 2 2", "r2:0-510:0/511"}, {"op add 4 1", ""}, {"op add 0 5", ""}, {"op add 5 0", "r5:3-10:0/15"}, {"op add 4 4", ""},
	{"opi add 0 255", "r0:258-265:0/511"}, {"opi add 0 0", ""}, {"opi add 5 1", "r5:1"}, {"opi add 4 1", ""},
	{"op sub 0 0", "r0:*:*"}, {"op sub 1 1", "r1:0"}, {"op sub 1 0", "r1:*:*"}, {"op sub 3 1", "r3:1-4:0/7"}, {"op sub 3 5", ""},
	{"opi sub 3 8", "r3:0-3:0/3"}, {"opi sub 5 1", "r5:65535"}, {"opi sub 1 7", "r1:0"}, {"opi sub 0 3", "r0:0-7:*"},
	{"op mul 0 1", "r0:21-70:*"}, {"op mul 1 1", "r1:49"}, {"op mul 0 5", "r0:0"}, {"op mul 5 4", "r5:0"}, {"op mul 4 1", ""},
	{"op mul 2 2", "r2:0-65025:*"}, {"opi mul 4 2", ""}, {"opi mul 0 1", "r0:3-10:*"}, {"opi mul 1 255", "r1:1785"}, {"opi mul 2 255", "r2:0-65025:*"},
	{"op div 0 1", "r0:0-1:*"}, {"op div 3 3", "r3:0-1:*"}, {"op div 2 5", "r2:0-255:*"}, {"op div 1 1", "r1:1"}, {"op div 1 3", "r1:0"},
	{"opi div 0 0", "r0:0-10:*"}, {"opi div 4 255", "r4:0-257:*"}, {"opi div 3 4", "r3:2"}, {"opi div 3 1", "r3:8-11:*"}, {"opi div 1 0", "r1:0"},
	{"op mod 1 3", ""}, {"op mod 3 1", "r3:0-6:*"}, {"op mod 2 5", "r2:0-255:*"}, {"op mod 0 3", "r0:0-10:*"}, {"op mod 1 1", "r1:0"},
	{"opi mod 4 8", "r4:0-7:*"}, {"opi mod 0 11", "r0:3-10:*"}, {"opi mod 0 10", "r0:0-9:*"}, {"opi mod 1 0", ""}, {"opi mod 3 1", "r3:0"},
	{"op and 0 1", "r0:0-7:0/7"}, {"op and 3 1", "r3:0-3:0/3"}, {"op and 4 1", "r4:0-7:0/7"}, {"op and 3 3", ""}, {"op and 4 5", "r4:0"},
	{"opi and 4 7", "r4:0-7:0/7"}, {"opi and 3 8", "r3:8"}, {"opi and 2 240", "r2:0-240:0/240"}, {"opi and 0 16", "r0:0"},
	{"op or 0 1", "r0:7-15:7/8"}, {"op or 3 1", "r3:15"}, {"op or 3 3", ""}, {"op or 5 5", ""}, {"op or 4 1", "r4:7-65535:7/65528"},
	{"opi or 5 200", "r5:200"}, {"opi or 2 1", "r2:1-255:1/254"}, {"opi or 3 1", "r3:9-11:9/2"}, {"opi or 4 255", "r4:255-65535:255/65280"},
	{"op xor 0 1", "r0:0-15:0/15"}, {"op xor 3 3", "r3:0-3:0/3"}, {"op xor 3 1", "r3:12-15:12/3"}, {"op xor 1 1", "r1:0"}, {"op xor 4 4", ""},
	{"opi xor 1 255", "r1:248"}, {"opi xor 2 255", ""}, {"opi xor 3 8", "r3:0-3:0/3"}, {"opi xor 3 4", "r3:12-15:12/3"},
	{"op shl 0 1", "r0:384-1280:0/1920"}, {"op shl 3 1", "r3:1024-1408:1024/384"}, {"op shl 1 3", "r1:*:*"}, {"op shl 1 1", "r1:896"}, {"op shl 0 0", "r0:*:*"},
	{"opi shl 1 14", "r1:49152"}, {"opi shl 0 17", "r0:6-20:0/30"}, {"opi shl 2 8", "r2:0-65280:0/65280"}, {"opi shl 2 9", "r2:0-65024:0/65024"}, {"opi shl 4 16", ""},
	{"op shr 2 1", "r2:0-1:0/1"}, {"op shr 3 3", "r3:0-11:*"}, {"op shr 0 1", "r0:0"}, {"op shr 1 1", "r1:0"}, {"op shr 4 5", ""},
	{"opi shr 4 12", "r4:0-15:0/15"}, {"opi shr 3 2", "r3:2"}, {"opi shr 3 1", "r3:4-5:4/1"}, {"opi shr 0 16", ""}, {"opi shr 1 255", "r1:0"},
}

var otherCases = []mayCase{
	{"set 0 7", "r0:7"}, {"set 5 255", "r5:255"}, {"set 4 0", "r4:0"}, {"set 1 7", ""}, {"wide 4 65535", "r4:65535"}, {"wide 0 256", "r0:256"},
	{"ctx 0 5 7", "r0:0-255:0/255"}, {"ctx 5 5 0", "r5:0-255:0/255"}, {"ctx 4 1 0", "r4:0-255:0/255"}, {"ctx 1 1 0", "r1:0-255:0/255"}, {"ctx 2 5 3", ""},
	{"store 0 2", "c2:3-10"}, {"store 0 4", "c4:3-10"}, {"store 4 15", "c15:*"}, {"store 5 0", "c0:0"}, {"store 3 1", "c1:8-11"}, {"store 1 7", "c7:7"},
	{"load 0 2", "r0:100-200:*"}, {"load 4 15", "r4:5"}, {"load 5 7", "r5:40-41:*"}, {"load 3 15", "r3:5"},
	{"jump 1", ""}, {"jump 19", ""}, {"eq 0 1 1", ""}, {"eq 3 3 19", ""}, {"eq 5 1 2", ""}, {"less 0 1 1", ""}, {"less 1 5 19", ""}, {"less 4 4 1", ""}, {"exit", ""},
}

// StepMay, each kind and each operation in values written by hand. What a case
// does not name is unchanged.
func TestStepMayByHand(t *testing.T) {
	met := map[[2]int]int{}
	for _, c := range slices.Concat(operationCases, otherCases) {
		s := stepIn(c.step)
		if !wantGoodStep(s) {
			t.Fatalf("%s is no step", c.step)
		}
		m, code, ok := impl.StepMay(s, middle().may())
		if want := middle().with(c.change); !isMay(m, want) || code != 0 || !ok {
			t.Errorf("%s of %v comes to %v, %d, %t, want %v", c.step, middle(), m, code, ok, want)
		}
		checkNext(t, s, middle())
		met[[2]int{s.Kind, s.Op}]++
	}
	for _, row := range kindRows {
		for op := range 11 {
			if (op > 0) == (row.spans[fieldOp] != nil) && met[[2]int{row.kind, op}] == 0 {
				t.Errorf("no case has the kind %s with the operation %s", row.name, opNames[op])
			}
		}
	}
}

// An interval and known bits that contradict: ReduceBoth returns false, and the
// register has what DoStretch and DoKnown return.
func TestStepMayOfContradictions(t *testing.T) {
	cases := []struct{ state, step, change string }{
		{"r0:0-0:8/0", "opi add 0 0", "r0:0-0:8/0"},
		{"r0:0-0:8/0", "op add 0 5", "r0:0-0:8/0"},
		{"r0:0-0:8/0", "op add 0 0", "r0:0-0:16/0"},
		{"r0:0-3:8/3", "opi add 0 4", "r0:4-7:12/3"},
		{"r0:20-30:0/15", "opi sub 0 0", "r0:20-30:0/15"},
		{"r0:2-2:3/0", "opi mul 0 5", "r0:10-10:15/0"},
		{"r0:9-9:2/0", "opi div 0 2", "r0:4-4:1/0"},
		{"r0:9-9:2/0", "opi shr 0 1", "r0:4-4:1/0"},
		{"r0:9-9:2/0", "opi shl 0 1", "r0:18-18:4/0"},
		{"r0:9-9:2/0 r1:9-9:2/0", "op add 0 1", "r0:18-18:4/0 r1:9-9:2/0"},
		// The one word that is left does not match.
		{"r0:5-5:4/2", "opi add 0 0", "r0:5-5:4/2"},
		{"r0:5-9:4/2", "opi div 0 1", "r0:5-9:*"},
		{"r0:5-6:0/8", "opi add 0 0", "r0:5-6:0/8"},
		// What they have in common is combined, whatever was there before.
		{"r0:0-0:8/0", "opi and 0 255", "r0:0-0:8/0"},
		{"r0:0-9:8/0", "opi and 0 255", "r0:8"},
		{"r0:0-0:8/0", "set 0 4", "r0:4"},
		{"r0:0-0:8/0", "ctx 0 5 0", "r0:0-255:0/255"},
		{"r0:6-6:8/0", "store 0 3", "r0:6-6:8/0 c3:6"},
		{"r0:6-6:8/0 c3:1-2", "load 0 3", "r0:1-2:* c3:1-2"},
		{"r0:6-6:8/0", "eq 0 0 1", "r0:6-6:8/0"},
	}
	for _, c := range cases {
		o := startOutlook().with(c.state)
		want := startOutlook().with(c.change)
		wantStepMay(t, stepIn(c.step), o, want, 0)
		checkNext(t, stepIn(c.step), o)
	}
}

// Each fault, and the last value that does not cause it.
func TestStepMayFaults(t *testing.T) {
	cases := []struct {
		state, step string
		code        int
	}{
		{"r1:7", "ctx 0 1 0", 0}, {"r1:8", "ctx 0 1 0", impl.FtCtx}, {"r1:0", "ctx 0 1 7", 0}, {"r1:1", "ctx 0 1 7", impl.FtCtx},
		{"r1:0-7:0/7", "ctx 0 1 0", 0}, {"r1:0-8:0/15", "ctx 0 1 0", impl.FtCtx}, {"r1:0-4:0/7", "ctx 0 1 3", 0}, {"r1:0-5:0/7", "ctx 0 1 3", impl.FtCtx},
		// The interval alone counts, and its upper end.
		{"r1:0-7:0/65535", "ctx 0 1 0", 0}, {"r1:0-8:0/7", "ctx 0 1 0", impl.FtCtx}, {"r1:0-65535:0/0", "ctx 0 1 0", impl.FtCtx}, {"r1:65535", "ctx 0 1 1", impl.FtCtx},
		{"r1:7 r0:*:*", "ctx 0 1 0", 0}, {"r0:7", "ctx 0 0 0", 0}, {"r0:8", "ctx 0 0 0", impl.FtCtx}, {"r1:6", "ctx 1 1 1", 0}, {"r1:6", "ctx 1 1 2", impl.FtCtx},
		{"", "store 0 0", 0}, {"", "store 0 15", 0}, {"", "store 0 16", impl.FtCell}, {"", "store 5 17", impl.FtCell}, {"", "store 0 255", impl.FtCell},
		{"c0:1", "load 0 0", 0}, {"c15:1-9", "load 0 15", 0}, {"", "load 0 0", impl.FtUnset}, {"", "load 0 15", impl.FtUnset},
		{"c0:1?", "load 0 0", impl.FtUnset}, {"c14:1", "load 0 15", impl.FtUnset}, {"c0:1", "load 0 16", impl.FtCell}, {"", "load 0 16", impl.FtCell}, {"", "load 5 255", impl.FtCell},
	}
	for _, c := range cases {
		_, code := checkNext(t, stepIn(c.step), startOutlook().with(c.state))
		if code != c.code {
			t.Errorf("the tests disagree: %s in %s has the fault %d", c.step, c.state, code)
		}
	}
	full := outlook{}
	for i := range full.set {
		full.cell[i], full.set[i] = one(i), true
	}
	for imm := range 256 {
		want := map[bool]int{true: impl.FtCell}[imm > 15]
		for _, o := range []outlook{full, startOutlook(), middle()} {
			if _, code, _ := impl.StepMay(impl.Step{Kind: impl.StStore, Dst: 1, Imm: imm}, o.may()); code != want {
				t.Errorf("a store to cell %d: %d", imm, code)
			}
			load := want
			if imm < 16 && !o.set[imm] {
				load = impl.FtUnset
			}
			if _, code, _ := impl.StepMay(impl.Step{Kind: impl.StLoad, Dst: 1, Imm: imm}, o.may()); code != load {
				t.Errorf("a load of cell %d: %d, want %d", imm, code, load)
			}
		}
	}
}

// Every step with each field at an end of its range, in states of all kinds.
func TestStepMayOfEndSteps(t *testing.T) {
	g := lcg(1302)
	codes := map[int]int{}
	for _, row := range kindRows {
		for _, s := range endSteps(row) {
			for i := range 40 {
				o := []outlook{startOutlook(), middle(), anyOutlook(&g), someOutlook(&g, someFrame(&g, 0))}[i%4]
				_, code := checkNext(t, s, o)
				codes[code]++
			}
		}
	}
	for code := range 4 {
		if codes[code] < 30 {
			t.Errorf("the code %d was met %d times only", code, codes[code])
		}
	}
}

// A shape is an interval and known bits of a register.
type shape struct {
	s impl.Stretch
	k impl.Known
}

// Every operation on registers of all kinds, also those that contradict.
func TestStepMayOfEveryOperation(t *testing.T) {
	shapes := []shape{
		{one(0), exact(0)}, {one(1), exact(1)}, {one(65535), exact(65535)}, {from(0, 255), known(0, 255)}, {allOfThem, noneKnown}, {from(3, 10), noneKnown},
		{from(8, 11), known(8, 3)}, {from(0, 7), known(0, 7)}, {from(32767, 32768), noneKnown}, {one(0), exact(8)}, {from(20, 30), known(0, 15)}, {one(5), known(4, 2)},
		{allOfThem, exact(16)}, {from(0, 65534), known(0, 65534)}, {one(16), exact(16)}, {from(15, 17), known(0, 31)}, {from(1, 65535), known(1, 65534)}, {allOfThem, known(4, 3)},
	}
	for _, a := range shapes {
		o := middle()
		o.reg[2], o.bits[2] = a.s, a.k
		for _, op := range allOps {
			checkNext(t, impl.Step{Kind: impl.StOp, Op: op, Dst: 2, Src: 2}, o)
			for _, imm := range []int{0, 1, 7, 8, 15, 16, 17, 128, 255} {
				checkNext(t, impl.Step{Kind: impl.StOpImm, Op: op, Dst: 2, Imm: imm}, o)
			}
			for _, b := range shapes {
				o.reg[4], o.bits[4] = b.s, b.k
				checkNext(t, impl.Step{Kind: impl.StOp, Op: op, Dst: 2, Src: 4}, o)
				checkNext(t, impl.Step{Kind: impl.StOp, Op: op, Dst: 4, Src: 2}, o)
			}
		}
	}
}

// Promise 13 for one step: from a machine that a state describes, a step without
// a possible fault has none, and the machine after it is described by what
// StepMay and HeedJump return.
func TestOneStepOfSomeMachines(t *testing.T) {
	g := lcg(1303)
	met := map[[2]int]int{}
	for range 60000 {
		x := someFrame(&g, 0)
		o := someOutlook(&g, x)
		s := someStep(&g)
		p := hold(s)
		if !wantGoodProgram(p) {
			continue
		}
		ctx := someContext(&g)
		checkIn(t, o, x, true)
		next, code := checkNext(t, s, o)
		after, fault, _ := wantStep(s, ctx, x)
		if code != 0 {
			met[[2]int{s.Kind, 100 + fault}]++
			continue
		}
		m, got, _, ok := impl.DoStep(p, ctx, x.machine())
		if got != 0 || fault != 0 || !ok || !sameMachine(m, after.machine()) {
			t.Fatalf("%+v has the fault %d, %d for %v, but StepMay of %v has none", s, got, fault, x, o)
		}
		if s.Kind == impl.StEq || s.Kind == impl.StLess {
			taken := after.at != 1
			left, possible := checkLeft(t, s, next, taken)
			if !possible {
				t.Fatalf("HeedJump(%+v, taken %t) of %v is not possible, but happens for %v", s, taken, next, x)
			}
			checkLeft(t, s, next, !taken)
			next = left
		}
		if !next.describes(after) {
			t.Fatalf("%+v: %v comes to %v, %v to %v", s, o, next, x, after)
		}
		checkIn(t, next, after, true)
		met[[2]int{s.Kind, s.Op}]++
	}
	for _, row := range kindRows {
		for op := range 11 {
			if (op > 0) == (row.spans[fieldOp] != nil) && met[[2]int{row.kind, op}] < 60 {
				t.Errorf("the kind %s with the operation %s was executed %d times only", row.name, opNames[op], met[[2]int{row.kind, op}])
			}
		}
	}
	for _, f := range [][2]int{{impl.StCtx, 101}, {impl.StLoad, 102}, {impl.StLoad, 103}, {impl.StStore, 102}} {
		if met[f] < 60 {
			t.Errorf("the fault %d of the kind %d was met %d times only", f[1]-100, f[0], met[f])
		}
	}
}

// inAt checks InMay of a change to the machine.
func inAt(t *testing.T, o outlook, want bool, change func(x *frame)) {
	t.Helper()
	x := frame{}
	for i := range o.reg {
		x.regs[i] = uint16(o.bits[i].Value)
	}
	for i := range o.cell {
		x.cells[i], x.set[i] = uint16(o.cell[i].Lo), o.set[i]
	}
	change(&x)
	if o.describes(x) != want {
		t.Errorf("the tests disagree on %v and %v", o, x)
	}
	checkIn(t, o, x, want)
}

// InMay at both ends of each interval, with a bit that is not as known, and with
// cells that are set and not, surely and not.
func TestInMayByHand(t *testing.T) {
	for i := range 6 {
		o := startOutlook().with(fmt.Sprintf("r%d:9-20:8/19", i))
		for n, want := range map[uint16]bool{7: false, 8: false, 9: true, 10: true, 11: true, 12: false, 16: false, 20: false, 24: false, 26: false, 0: false, 65535: false} {
			inAt(t, o, want, func(x *frame) { x.regs[i] = n })
		}
		for n := range uint16(300) {
			inAt(t, startOutlook(), n == 0, func(x *frame) { x.regs[i] = n })
			inAt(t, startOutlook().with(fmt.Sprintf("r%d:*:*", i)), true, func(x *frame) { x.regs[i] = n })
			inAt(t, startOutlook().with(fmt.Sprintf("r%d:0-255:0/255", i)), n < 256, func(x *frame) { x.regs[i] = n })
			inAt(t, startOutlook().with(fmt.Sprintf("r%d:5-260:4/65531", i)), n >= 5 && n <= 260 && n&4 == 4, func(x *frame) { x.regs[i] = n })
		}
		// No word is in the interval and matches.
		inAt(t, startOutlook().with(fmt.Sprintf("r%d:0-0:8/0", i)), false, func(x *frame) {})
		inAt(t, startOutlook().with(fmt.Sprintf("r%d:0-0:8/0", i)), false, func(x *frame) { x.regs[i] = 0 })
	}
	for i := range 16 {
		for n, within := range map[uint16]bool{4: false, 5: true, 6: true, 9: true, 10: false, 0: false, 65535: false} {
			surely := startOutlook().with(fmt.Sprintf("c%d:5-9", i))
			perhaps := startOutlook().with(fmt.Sprintf("c%d:5-9?", i))
			inAt(t, surely, within, func(x *frame) { x.cells[i], x.set[i] = n, true })
			inAt(t, surely, false, func(x *frame) { x.cells[i], x.set[i] = n, false })
			inAt(t, perhaps, within, func(x *frame) { x.cells[i], x.set[i] = n, true })
			inAt(t, perhaps, true, func(x *frame) { x.cells[i], x.set[i] = n, false })
			inAt(t, startOutlook(), true, func(x *frame) { x.cells[i], x.set[i] = n, true })
		}
		// Another cell that is set does not stand for this one.
		inAt(t, startOutlook().with(fmt.Sprintf("c%d:0", i)), false, func(x *frame) { x.set[i], x.set[(i+1)%16] = false, true })
	}
}

// The index of the next step does not count.
func TestInMayOfEveryIndex(t *testing.T) {
	g := lcg(1304)
	for at := range 20 {
		x := someFrame(&g, at)
		checkIn(t, someOutlook(&g, x), x, true)
		checkIn(t, startOutlook(), frame{at: at}, true)
	}
}

func TestInMayOfSomeMachines(t *testing.T) {
	g := lcg(1305)
	in, out := 0, 0
	for range 20000 {
		x := someFrame(&g, g.below(20))
		o := someOutlook(&g, x)
		checkIn(t, o, x, true)
		y := x
		switch i := g.below(16); g.below(4) {
		case 0:
			y.regs[i%6] ^= 1 << g.below(16)
		case 1:
			y.cells[i] ^= 1 << g.below(16)
		case 2:
			y.set[i] = !y.set[i]
		case 3:
			o.reg[i%6], o.bits[i%6] = someAround(&g, g.below(65536))
		}
		want := o.describes(y)
		checkIn(t, o, y, want)
		if want {
			in++
		} else {
			out++
		}
	}
	if in < 3000 || out < 3000 {
		t.Errorf("%d machines are described, %d are not", in, out)
	}
}

// checkJoined compares JoinMay with the chapters 9 and 10, element by element,
// and with a plain calculation. Both orders come to the same.
func checkJoined(t *testing.T, a, b outlook) outlook {
	t.Helper()
	want := wantJoined(a, b)
	byParts := outlook{}
	for i := range a.reg {
		byParts.reg[i], _ = impl.JoinStretch(a.reg[i], b.reg[i])
		byParts.bits[i], _ = impl.JoinKnown(a.bits[i], b.bits[i])
	}
	for i := range a.cell {
		byParts.cell[i], _ = impl.JoinStretch(a.cell[i], b.cell[i])
		byParts.set[i] = a.set[i] && b.set[i]
	}
	if byParts != want {
		t.Fatalf("the tests disagree on %v and %v: %v and %v", a, b, byParts, want)
	}
	for _, x := range [][2]outlook{{a, b}, {b, a}} {
		if m, ok := impl.JoinMay(x[0].may(), x[1].may()); !isMay(m, want) || !impl.GoodMay(m) || !ok {
			t.Fatalf("JoinMay of %v and %v = %v, %t, want %v, true", x[0], x[1], m, ok, want)
		}
	}
	return want
}

func TestJoinMayByHand(t *testing.T) {
	cases := []struct{ a, b, want string }{
		{"", "", ""},
		{"r0:4", "r0:6", "r0:4-6:4/2"},
		{"r0:4", "", "r0:0-4:0/4"},
		{"r5:65535", "", "r5:*:*"},
		{"r1:3-10:0/15", "r1:7", "r1:3-10:0/15"},
		{"r1:8-11:8/3", "r1:24-27:24/3", "r1:8-27:8/19"},
		{"r2:1 r3:2", "r2:1 r3:4", "r2:1 r3:2-4:0/6"},
		{"r4:5-9:*", "r4:0-255:0/255", "r4:0-255:*"},
		// A cell that is surely set in both states, in one, in none.
		{"c3:5", "c3:9", "c3:5-9"}, {"c0:5-8", "c0:6-7", "c0:5-8"}, {"c15:0", "c15:65535", "c15:*"},
		{"c3:5", "c3:9?", "c3:5-9?"}, {"c3:5?", "c3:9", "c3:5-9?"}, {"c3:5?", "c3:9?", "c3:5-9?"},
		{"c3:5", "", ""}, {"", "c3:5", ""}, {"c3:5?", "", ""}, {"c3:5", "c4:5", ""}, {"c3:5 c4:5", "c4:5", "c4:5"}, {"c3:*", "", ""}, {"c3:*", "c3:5", "c3:*"},
		{"r0:1 c1:1 c2:2", "r0:1 c1:2 c2:2?", "r0:1 c1:1-2 c2:2?"},
	}
	for _, c := range cases {
		got := checkJoined(t, startOutlook().with(c.a), startOutlook().with(c.b))
		if want := startOutlook().with(c.want); got != want {
			t.Errorf("JoinMay of %q and %q is %v, want %v", c.a, c.b, got, want)
		}
	}
}

// Each element by itself.
func TestJoinMayOfEveryPlace(t *testing.T) {
	g := lcg(1306)
	for range 20 {
		base, other := anyOutlook(&g), anyOutlook(&g)
		for i := range base.reg {
			a, b := base, base
			b.reg[i] = other.reg[i]
			checkJoined(t, a, b)
			b.bits[i] = other.bits[i]
			checkJoined(t, a, b)
		}
		for i := range base.cell {
			a, b := base, base
			b.cell[i] = other.cell[i]
			for n := range 4 {
				a.set[i], b.set[i] = n&1 == 1, n&2 == 2
				checkJoined(t, a, b)
			}
		}
	}
}

// What one of two states describes, both joined describe.
func TestJoinMayOfSomeStates(t *testing.T) {
	g := lcg(1307)
	for range 3000 {
		x, y := someFrame(&g, 0), someFrame(&g, 0)
		joined := checkJoined(t, someOutlook(&g, x), someOutlook(&g, y))
		checkIn(t, joined, x, true)
		checkIn(t, joined, y, true)
		o := anyOutlook(&g)
		if checkJoined(t, o, o) != o {
			t.Fatalf("%v joined with itself differs", o)
		}
		checkJoined(t, o, anyOutlook(&g))
	}
}

// hulls returns the least and the greatest words of those in a and b for which
// there is a word on the other side.
func hulls(a, b impl.Stretch, holds func(x, y int) bool) (impl.Stretch, impl.Stretch, bool) {
	left, right := map[int]bool{}, map[int]bool{}
	for x := a.Lo; x <= a.Hi; x++ {
		for y := b.Lo; y <= b.Hi; y++ {
			if holds(x, y) {
				left[x], right[y] = true, true
			}
		}
	}
	if len(left) == 0 {
		return impl.Stretch{}, impl.Stretch{}, false
	}
	hull := func(words map[int]bool) impl.Stretch {
		s := from(65535, 0)
		for n := range words {
			s = from(min(s.Lo, n), max(s.Hi, n))
		}
		return s
	}
	return hull(left), hull(right), true
}

// jumpHolds returns when a jump is taken, or when it is not.
func jumpHolds(kind int, taken bool) func(x, y int) bool {
	if kind == impl.StEq {
		return func(x, y int) bool { return (x == y) == taken }
	}
	return func(x, y int) bool { return (x < y) == taken }
}

// Jumps beside the words of small intervals, of which no bit is known: disjoint
// intervals, touching ones, equal ones, and one in the other.
func TestHeedJumpByWords(t *testing.T) {
	possible, not := 0, 0
	for _, lo := range []int{0, 100, 65530} {
		eachPairOfStretches(lo, lo+5, func(a, b impl.Stretch) {
			o := middle()
			o.reg[4], o.bits[4], o.reg[2], o.bits[2] = a, noneKnown, b, noneKnown
			for kind := impl.StEq; kind <= impl.StLess; kind++ {
				for _, taken := range []bool{false, true} {
					want := o
					x, y, some := hulls(a, b, jumpHolds(kind, taken))
					if kind == impl.StEq && !taken {
						x, y, some = a, b, true
					}
					want.reg[4], want.reg[2] = x, y
					s := impl.Step{Kind: kind, Dst: 4, Src: 2, To: 1}
					wantHeedJump(t, s, o, taken, want, some)
					checkLeft(t, s, o, taken)
					if some {
						possible++
					} else {
						not++
					}
				}
			}
		})
	}
	if possible < 2000 || not < 500 {
		t.Errorf("possible %d times, not possible %d times", possible, not)
	}
}

// Known bits of equal words: every pair of Knowns of three bits, beside the
// words that match both.
func TestHeedJumpByKnownBits(t *testing.T) {
	for _, places := range [][]int{{0, 1, 2}, {0, 7, 15}} {
		var l []impl.Known
		eachKnownAt(1<<10, places, func(k impl.Known) { l = append(l, k) })
		for _, a := range l {
			for _, b := range l {
				var both []int
				for _, n := range matching(a) {
					if wantMatch(b, n) {
						both = append(both, n)
					}
				}
				o := startOutlook().with("r1:*:* r3:*:*")
				o.bits[1], o.bits[3] = a, b
				want := o
				want.bits[1], want.bits[3] = wantOf(both), wantOf(both)
				wantHeedJump(t, impl.Step{Kind: impl.StEq, Dst: 1, Src: 3, To: 1}, o, true, want, len(both) > 0)
				for _, s := range []impl.Step{{Kind: impl.StEq, Dst: 1, Src: 3, To: 1}, {Kind: impl.StLess, Dst: 1, Src: 3, To: 1}} {
					wantHeedJump(t, s, o, false, o, true)
				}
				less := o.with("")
				less.reg[1], less.reg[3] = from(0, 65534), from(1, 65535)
				wantHeedJump(t, impl.Step{Kind: impl.StLess, Dst: 1, Src: 3, To: 1}, o, true, less, true)
			}
		}
	}
}

func TestHeedJumpByHand(t *testing.T) {
	cases := []struct {
		step, state string
		taken       bool
		want        string
	}{
		{"eq 0 1 1", "", true, ""}, {"eq 0 1 1", "", false, ""},
		{"eq 0 1 19", "r0:3-10:0/15 r1:7", true, "r0:7 r1:7"}, {"eq 0 1 1", "r0:3-10:0/15 r1:7", false, "r0:3-10:0/15 r1:7"},
		{"eq 1 0 1", "r0:3-10:0/15 r1:7", true, "r0:7 r1:7"}, {"eq 0 1 1", "r0:3-10:0/15 r1:11", true, "not"}, {"eq 0 1 1", "r0:3-10:0/15 r1:11", false, "r0:3-10:0/15 r1:11"},
		{"eq 0 1 1", "r0:3-10:0/15 r1:2", true, "not"}, {"eq 0 1 1", "r0:3-10:* r1:10-20:*", true, "r0:10-10:* r1:10-10:*"},
		{"eq 0 1 1", "r0:3-10:* r1:11-20:*", true, "not"}, {"eq 0 1 1", "r0:*:* r1:3-10:0/15", true, "r0:3-10:0/15 r1:3-10:0/15"},
		// The known bits disagree, or together know every bit.
		{"eq 0 1 1", "r0:0-255:1/254 r1:0-255:0/254", true, "not"}, {"eq 0 1 1", "r0:0-255:1/254 r1:0-255:0/254", false, "r0:0-255:1/254 r1:0-255:0/254"},
		{"eq 0 1 1", "r0:0-255:1/254 r1:0-255:240/15", true, "r0:0-255:241/14 r1:0-255:241/14"},
		{"eq 0 1 1", "r0:0-255:4/3 r1:0-255:0/252", true, "r0:0-255:4/0 r1:0-255:4/0"},
		{"eq 0 1 1", "r0:8-11:8/3 r1:0-3:0/3", true, "not"}, {"eq 0 1 1", "r0:0-9:8/3 r1:0-9:0/7", true, "not"},
		// The interval and the known bits do not refine each other here.
		{"eq 0 1 1", "r0:0-9:4/1 r1:6-9:4/1", true, "r0:6-9:4/1 r1:6-9:4/1"},
		// The same register on both sides.
		{"eq 2 2 1", "r2:3-10:0/15", true, "r2:3-10:0/15"}, {"eq 2 2 1", "r2:3-10:0/15", false, "r2:3-10:0/15"}, {"eq 2 2 1", "r2:5", false, "r2:5"},
		{"less 2 2 1", "r2:3-10:0/15", true, "not"}, {"less 2 2 1", "r2:3-10:0/15", false, "r2:3-10:0/15"}, {"less 2 2 1", "r2:5", true, "not"}, {"less 2 2 1", "r2:*:*", false, "r2:*:*"},
		{"less 2 2 1", "r2:*:*", true, "not"}, {"eq 2 2 1", "r2:0-0:8/0", true, "r2:0-0:8/0"},
		{"less 0 1 1", "", true, "not"}, {"less 0 1 1", "", false, ""},
		{"less 0 1 1", "r0:1-9:* r1:0-4:*", true, "r0:1-3:* r1:2-4:*"}, {"less 0 1 1", "r0:1-9:* r1:0-4:*", false, "r0:1-9:* r1:0-4:*"},
		{"less 0 1 1", "r0:0-255:0/255 r1:8", true, "r0:0-7:0/255 r1:8"}, {"less 0 1 1", "r0:0-255:0/255 r1:8", false, "r0:8-255:0/255 r1:8"},
		{"less 1 0 1", "r0:0-255:0/255 r1:8", true, "r0:9-255:0/255 r1:8"}, {"less 1 0 1", "r0:0-255:0/255 r1:8", false, "r0:0-8:0/255 r1:8"},
		{"less 0 1 1", "r0:3-10:* r1:7-20:*", false, "r0:7-10:* r1:7-10:*"}, {"less 0 1 1", "r0:3-10:* r1:10-20:*", false, "r0:10-10:* r1:10-10:*"},
		{"less 0 1 1", "r0:3-10:* r1:11-20:*", false, "not"}, {"less 0 1 1", "r0:3-10:* r1:11-20:*", true, "r0:3-10:* r1:11-20:*"},
		{"less 0 1 1", "r0:3-10:* r1:0-3:*", true, "not"}, {"less 0 1 1", "r0:3-10:* r1:0-4:*", true, "r0:3-3:* r1:4-4:*"}, {"less 0 1 1", "r0:3-10:* r1:0-3:*", false, "r0:3-10:* r1:0-3:*"},
		{"less 0 1 1", "r0:*:* r1:*:*", true, "r0:0-65534:* r1:1-65535:*"}, {"less 0 1 1", "r0:*:* r1:*:*", false, "r0:*:* r1:*:*"},
		{"less 0 1 1", "r0:65535 r1:65535", true, "not"}, {"less 0 1 1", "r0:65534 r1:65535", false, "not"}, {"less 0 1 1", "r1:65535", true, "r1:65535"},
		// Known bits are as before, even where one word is left.
		{"less 0 1 1", "r0:0-255:0/255 r1:1", true, "r0:0-0:0/255 r1:1"}, {"less 0 5 1", "r0:0-255:0/255", false, "r0:0-255:0/255"},
		{"less 0 1 1", "r0:8-11:8/3 r1:0-12:0/15 c3:5 c4:0-9?", true, "r0:8-11:8/3 r1:9-12:0/15 c3:5 c4:0-9?"},
	}
	for _, c := range cases {
		o, want := startOutlook().with(c.state), outlook{}
		if c.want != "not" {
			want = startOutlook().with(c.want)
		}
		wantHeedJump(t, stepIn(c.step), o, c.taken, want, c.want != "not")
		checkLeft(t, stepIn(c.step), o, c.taken)
	}
}

// Every pair of registers, also the same one, in states of all kinds.
func TestHeedJumpOfSomeStates(t *testing.T) {
	g := lcg(1308)
	met := map[string]int{}
	for range 150 {
		x := someFrame(&g, 0)
		if g.below(2) == 0 {
			x.regs[g.below(6)] = x.regs[g.below(6)]
		}
		for _, o := range []outlook{someOutlook(&g, x), anyOutlook(&g)} {
			for a := range 6 {
				for b := range 6 {
					for n := range 4 {
						s := impl.Step{Kind: impl.StEq + n%2, Dst: a, Src: b, To: 1 + g.below(19)}
						_, possible := checkLeft(t, s, o, n > 1)
						met[fmt.Sprint(n, a == b, possible)]++
					}
				}
			}
		}
	}
	for n := range 4 {
		if name := fmt.Sprint(n, false, true); met[name] < 300 {
			t.Errorf("%s: %d", name, met[name])
		}
	}
	if met["2 false false"] < 300 || met["3 false false"] < 300 || met["1 false false"] < 300 || met["3 true true"] > 0 || met["0 false false"] > 0 {
		t.Error(met)
	}
}

// A reportCase has a program, for each step its state, or a minus if it is not
// met, and the Bad steps.
type reportCase struct {
	program string
	states  []string
	bad     string
}

const byteInR0 = "r0:0-255:0/255"

var reportCases = []reportCase{
	{"exit", []string{""}, ""},
	// The chapter's example.
	{"ctx 0 2 0|ctx 1 0 0|exit", []string{"", byteInR0, "-"}, "1"},
	// Bad steps, and steps that only they lead to.
	{"load 0 3|set 1 1|exit", []string{"", "-", "-"}, "0"},
	{"store 0 16|exit", []string{"", "-"}, "0"},
	{"load 0 16|exit", []string{"", "-"}, "0"},
	{"set 0 1|ctx 1 0 7|exit", []string{"", "r0:1", "-"}, "1"},
	{"set 0 1|ctx 1 0 6|exit", []string{"", "r0:1", "r0:1 r1:0-255:0/255"}, ""},
	{"ctx 0 5 0|eq 0 5 1|load 1 3|exit", []string{"", byteInR0, byteInR0, ""}, "2"},
	{"ctx 0 5 0|eq 0 5 3|load 1 3|load 1 4|exit|load 2 4|load 3 3|exit", []string{"", byteInR0, byteInR0, "-", "-", "", "-", "-"}, "2 5"},
	{"ctx 0 5 0|eq 0 5 2|load 1 3|exit|jump 2|exit|exit|store 0 16|exit", []string{"", byteInR0, byteInR0, "-", "", "-", "-", "", "-"}, "2 7"},
	// One step and what it makes of the state.
	{"opi sub 0 1|exit", []string{"", "r0:65535"}, ""},
	{"wide 3 4660|op mul 3 3|exit", []string{"", "r3:4660", "r3:23184"}, ""},
	{"ctx 0 5 3|store 0 2|set 0 9|store 0 2|load 1 2|exit", []string{"", byteInR0, byteInR0 + " c2:0-255", "r0:9 c2:0-255", "r0:9 c2:9", "r0:9 r1:9 c2:9"}, ""},
	{"ctx 0 5 3|store 0 2|load 1 2|exit", []string{"", byteInR0, byteInR0 + " c2:0-255", byteInR0 + " r1:0-255:* c2:0-255"}, ""},
	// A step that a jump leads over, and one behind an exit.
	{"jump 1|set 0 1|exit", []string{"", "-", ""}, ""},
	{"jump 1|load 0 1|set 0 7|exit", []string{"", "-", "", "r0:7"}, ""},
	{"exit|load 0 1|exit", []string{"", "-", "-"}, ""},
	// A step to which two others lead, and three.
	{"ctx 0 5 0|eq 0 5 1|set 1 7|exit", []string{"", byteInR0, byteInR0, byteInR0 + " r1:0-7:0/7"}, ""},
	{"ctx 0 5 0|set 1 10|less 0 1 3|set 2 100|less 1 0 1|set 2 200|exit", []string{
		"", byteInR0, byteInR0 + " r1:10", "r0:10-255:0/255 r1:10", "r0:10-255:0/255 r1:10 r2:100", "r0:10-10:0/255 r1:10 r2:100", byteInR0 + " r1:10 r2:0-200:0/236"}, ""},
	{"ctx 0 5 0|eq 0 5 1|jump 1|jump 1|set 3 4|exit", []string{"", byteInR0, byteInR0, "", byteInR0, byteInR0 + " r3:0-4:0/4"}, ""},
	// A cell that is stored to on one path only, and on both.
	{"ctx 0 5 0|eq 0 5 1|store 0 3|load 1 3|exit", []string{"", byteInR0, byteInR0, byteInR0, "-"}, "3"},
	{"ctx 0 5 0|eq 0 5 2|store 0 3|jump 1|store 5 3|load 1 3|exit", []string{
		"", byteInR0, byteInR0, byteInR0 + " c3:0-255", "", byteInR0 + " c3:0-255", byteInR0 + " r1:0-255:* c3:0-255"}, ""},
	{"ctx 0 5 0|eq 0 5 2|set 1 4|jump 1|set 1 6|store 1 0|load 2 0|exit", []string{
		"", byteInR0, byteInR0, byteInR0 + " r1:4", "", byteInR0 + " r1:4-6:4/2", byteInR0 + " r1:4-6:4/2 c0:4-6", byteInR0 + " r1:4-6:4/2 r2:4-6:* c0:4-6"}, ""},
	// Jumps that cannot be taken, and those that always are.
	{"set 0 3|set 1 4|eq 0 1 2|less 0 1 1|set 2 9|exit", []string{"", "r0:3", "r0:3 r1:4", "r0:3 r1:4", "-", "r0:3 r1:4"}, ""},
	{"set 0 3|less 0 1 1|set 2 9|exit|exit", []string{"", "r0:3", "r0:3", "r0:3 r2:9", "-"}, ""},
	{"less 0 1 1|set 2 9|exit", []string{"", "", "r2:9"}, ""},
	{"ctx 2 5 0|less 2 2 1|set 1 1|exit", []string{"", "r2:0-255:0/255", "r2:0-255:0/255", "r2:0-255:0/255 r1:1"}, ""},
	{"ctx 0 5 0|opi or 0 1|ctx 1 5 1|opi and 1 254|eq 0 1 1|exit|exit", []string{
		"", byteInR0, "r0:1-255:1/254", "r0:1-255:1/254 r1:0-255:0/255", "r0:1-255:1/254 r1:0-254:0/254", "r0:1-255:1/254 r1:0-254:0/254", "-"}, ""},
	// That equal words are always equal does not count.
	{"eq 0 1 1|set 2 9|exit", []string{"", "", "r2:0-9:0/9"}, ""},
	{"eq 2 2 1|load 0 0|exit", []string{"", "", ""}, "1"},
	// An index that is compared first.
	{"ctx 0 5 0|set 1 8|less 0 1 1|exit|ctx 2 0 0|exit", []string{
		"", byteInR0, byteInR0 + " r1:8", "r0:8-255:0/255 r1:8", "r0:0-7:0/255 r1:8", "r0:0-7:0/255 r1:8 r2:0-255:0/255"}, ""},
	{"ctx 0 5 0|set 1 8|less 0 1 1|exit|ctx 2 0 1|exit", []string{"", byteInR0, byteInR0 + " r1:8", "r0:8-255:0/255 r1:8", "r0:0-7:0/255 r1:8", "-"}, "4"},
	{"ctx 0 5 0|set 1 8|less 1 0 2|ctx 2 0 0|exit|exit", []string{"", byteInR0, byteInR0 + " r1:8", "r0:0-8:0/255 r1:8", "-", "r0:9-255:0/255 r1:8"}, "3"},
	{"ctx 0 5 0|opi and 0 7|ctx 2 0 0|exit", []string{"", byteInR0, "r0:0-7:0/7", "r0:0-7:0/7 r2:0-255:0/255"}, ""},
	{"ctx 0 5 0|opi shr 0 5|ctx 0 0 0|exit", []string{"", byteInR0, "r0:0-7:0/7", byteInR0}, ""},
	// The interval and the known bits refine each other.
	{"ctx 0 5 0|opi and 0 3|opi or 0 8|opi and 0 8|exit", []string{"", byteInR0, "r0:0-3:0/3", "r0:8-11:8/3", "r0:8"}, ""},
	{"ctx 0 5 0|opi mul 0 0|ctx 1 0 7|exit", []string{"", byteInR0, "r0:0", "r0:0 r1:0-255:0/255"}, ""},
}

// surveyIn reads the states of a case.
func (c reportCase) survey() survey {
	v := survey{bad: numbersIn(c.bad)}
	for _, text := range c.states {
		v.met = append(v.met, text != "-")
		if text == "-" {
			v.states = append(v.states, outlook{})
		} else {
			v.states = append(v.states, startOutlook().with(text))
		}
	}
	return v
}

// sameSurvey looks at the outlooks of all steps.
func sameSurvey(a, b survey) bool {
	return slices.Equal(a.met, b.met) && slices.Equal(a.states, b.states) && slices.Equal(a.bad, b.bad)
}

func TestReportsByHand(t *testing.T) {
	for _, c := range reportCases {
		p := stepsIn(c.program)
		if !wantGoodProgram(p) {
			t.Fatalf("%s is no program", c.program)
		}
		want := c.survey()
		r := checkSurvey(t, p, want)
		if v := wantSurvey(p); !sameSurvey(v, want) {
			t.Errorf("the tests disagree on %s: %v and %v", c.program, v, want)
		}
		for n := range 256 {
			checkDescribed(t, p, []int{n, 255 - n, 7, 8, 9, 0, 255, 1}, r)
		}
	}
}

// As many steps, Bad steps and jumps to one step as there can be.
func TestReportsOfLongPrograms(t *testing.T) {
	p := slices.Repeat([]impl.Step{{Kind: impl.StOpImm, Op: impl.OpAdd, Dst: 3, Imm: 255}}, 20)
	p[19] = impl.Step{Kind: impl.StExit}
	want := survey{met: slices.Repeat([]bool{true}, 20)}
	for i := range 20 {
		want.states = append(want.states, startOutlook().with(fmt.Sprintf("r3:%d", 255*i)))
	}
	checkSurvey(t, p, want)

	// Each branch leads over the Bad step behind it, to the next branch.
	p = nil
	want = survey{}
	for i := range 9 {
		p = append(p, impl.Step{Kind: impl.StEq, Dst: 1, Src: 2, To: 1}, impl.Step{Kind: impl.StLoad, Imm: i})
		want.bad = append(want.bad, 2*i+1)
	}
	p = append(p, impl.Step{Kind: impl.StStore, Imm: 255}, impl.Step{Kind: impl.StExit})
	want.bad = append(want.bad, 18)
	want.states = append(slices.Repeat([]outlook{startOutlook()}, 19), outlook{})
	want.met = append(slices.Repeat([]bool{true}, 19), false)
	checkSurvey(t, p, want)

	// Every step leads to the last one.
	p = nil
	for i := range 18 {
		p = append(p, impl.Step{Kind: impl.StEq, Dst: i % 6, Src: i % 5, To: 18 - i})
	}
	p = append(p, impl.Step{Kind: impl.StSet, Imm: 9}, impl.Step{Kind: impl.StExit})
	want = survey{met: slices.Repeat([]bool{true}, 20), states: slices.Repeat([]outlook{startOutlook()}, 20)}
	want.states[19] = startOutlook().with("r0:0-9:0/9")
	checkSurvey(t, p, want)
}

// How a run ended, as far as promise 13 follows it.
const (
	runEnded = iota
	runFaulted
	runLeft
)

// checkDescribed is promise 13 for one run: as far as it comes without having
// passed a Bad step, each step that it comes to is met, and describes the
// machine there; none that is not Bad faults. It counts the steps that are
// executed by kind and operation, and returns whether the run came to its end,
// to a Bad step that faults, or to one that does not.
func checkDescribed(t *testing.T, p []impl.Step, ctx []int, r impl.Report, met ...map[[2]int]int) int {
	t.Helper()
	m := impl.NewMachine()
	for {
		at := m.At
		if !r.Met[at] {
			t.Fatalf("%v: the run with %v comes to step %d, which is not met", p, ctx, at)
		}
		if in, ok := impl.InMay(r.Mays[at], m); !in || !ok {
			t.Fatalf("%v: the run with %v comes to step %d with %v, which %v does not describe", p, ctx, at, m, r.Mays[at])
		}
		next, code, ended, ok := impl.DoStep(p, ctx, m)
		bad := slices.Contains(r.Bad, at)
		switch {
		case !ok || code != 0 && !bad:
			t.Fatalf("%v: the run with %v has the fault %d in step %d, which is not Bad, %t", p, ctx, code, at, ok)
		case code != 0:
			return runFaulted
		case bad:
			return runLeft
		}
		for _, counts := range met {
			counts[[2]int{p[at].Kind, p[at].Op}]++
		}
		if ended {
			return runEnded
		}
		m = next
	}
}

// calmStep mostly has no fault: register 5 stays 0, and the cells that are
// loaded are among those that were stored to.
func calmStep(g *lcg, stored []int) impl.Step {
	dst, op := g.below(5), allOps[g.below(len(allOps))]
	switch n := g.below(80); {
	case n < 20:
		return impl.Step{Kind: impl.StCtx, Dst: dst, Src: 5, Imm: g.below(8)}
	case n < 34:
		return impl.Step{Kind: impl.StOp, Op: op, Dst: dst, Src: g.below(6)}
	case n < 48:
		return impl.Step{Kind: impl.StOpImm, Op: op, Dst: dst, Imm: []int{g.below(9), g.below(256)}[g.below(2)]}
	case n < 52:
		return impl.Step{Kind: impl.StOpImm, Op: impl.OpAnd, Dst: dst, Imm: 3 + 4*g.below(2)}
	case n < 56:
		return impl.Step{Kind: impl.StCtx, Dst: dst, Src: g.below(5), Imm: g.below(2)}
	case n < 59:
		return impl.Step{Kind: impl.StSet, Dst: dst, Imm: g.below(12)}
	case n < 62:
		return impl.Step{Kind: impl.StWide, Dst: dst, Imm: 256 + g.below(65280)}
	case n < 70 && len(stored) > 0:
		return impl.Step{Kind: impl.StLoad, Dst: dst, Imm: stored[g.below(len(stored))]}
	case n < 71:
		return impl.Step{Kind: []int{impl.StLoad, impl.StStore}[g.below(2)], Dst: dst, Imm: g.below(20)}
	}
	return impl.Step{Kind: impl.StStore, Dst: g.below(6), Imm: g.below(4)}
}

// calmProgram has that many jumps among 100 steps.
func calmProgram(g *lcg, size, jumps int) []impl.Step {
	p := make([]impl.Step, size)
	var stored []int
	for i := range p {
		p[i] = calmStep(g, stored)
		if p[i].Kind == impl.StStore && p[i].Imm < 16 {
			stored = append(stored, p[i].Imm)
		}
		far := size - 2 - i
		if far < 1 || g.below(100) >= jumps {
			continue
		}
		p[i] = impl.Step{Kind: impl.StEq + g.below(2), Dst: g.below(5), Src: g.below(6), To: 1 + g.below(min(far, 4))}
		if g.below(12) == 0 {
			p[i] = impl.Step{Kind: impl.StJump, To: p[i].To}
		}
	}
	p[size-1] = impl.Step{Kind: impl.StExit}
	return p
}

// checkPrograms is promise 13 for programs that are drawn, over many contexts.
func checkPrograms(t *testing.T, g *lcg, count, contexts int, draw func() []impl.Step) (met map[[2]int]int, ends [3]int) {
	t.Helper()
	met = map[[2]int]int{}
	for range count {
		p := draw()
		r := checkSurvey(t, p, wantSurvey(p))
		for range contexts {
			ends[checkDescribed(t, p, someContext(g), r, met)]++
		}
	}
	return met, ends
}

// Promise 13: programs of 1 and of 20 steps and those between, without jumps.
func TestDescribedWithoutJumps(t *testing.T) {
	g := lcg(1309)
	for size := 1; size <= 20; size++ {
		_, ends := checkPrograms(t, &g, 60, 20, func() []impl.Step { return calmProgram(&g, size, 0) })
		if ends[runEnded] < 150 {
			t.Errorf("%d steps: %v", size, ends)
		}
	}
}

// Promise 13: every kind and operation, with jumps.
func TestDescribedWithJumps(t *testing.T) {
	g := lcg(1310)
	for _, jumps := range []int{10, 25, 50} {
		met, ends := checkPrograms(t, &g, 1200, 24, func() []impl.Step { return calmProgram(&g, []int{20, 20, 4 + g.below(16)}[g.below(3)], jumps) })
		if ends[runEnded] < 5000 || ends[runFaulted] < 1000 || ends[runLeft] < 1000 {
			t.Errorf("%d jumps: %v", jumps, ends)
		}
		for _, row := range kindRows {
			for op := range 11 {
				if (op > 0) == (row.spans[fieldOp] != nil) && met[[2]int{row.kind, op}] < 100 {
					t.Errorf("the kind %s with the operation %s was executed %d times only", row.name, opNames[op], met[[2]int{row.kind, op}])
				}
			}
		}
	}
}

// Promise 13: programs of any steps, of mostly jumps, and with a run for each of
// their paths.
func TestDescribedOfOtherPrograms(t *testing.T) {
	g := lcg(1311)
	checkPrograms(t, &g, 1500, 12, func() []impl.Step { return someProgram(&g) })
	_, ends := checkPrograms(t, &g, 1500, 12, func() []impl.Step { return tameProgram(&g) })
	if ends[runEnded] < 500 || ends[runFaulted] < 500 || ends[runLeft] < 20 {
		t.Error(ends)
	}
	_, ends = checkPrograms(t, &g, 1500, 12, func() []impl.Step { return jumpyProgram(&g, 1+g.below(20)) })
	if ends[runEnded] < 5000 {
		t.Error(ends)
	}
	for i := range 60 {
		forks := 1 + i%6
		p := forkedProgram(&g, forks)
		r := checkSurvey(t, p, wantSurvey(p))
		passed := make([]bool, len(p))
		for n := range 1 << forks {
			ctx := make([]int, impl.CtxSize)
			for k := range forks {
				ctx[k] = n >> k & 1 * (1 + g.below(255))
			}
			checkDescribed(t, p, ctx, r)
			begun, _, _ := impl.TraceOf(p, ctx)
			for _, at := range begun {
				passed[at] = true
			}
		}
		// Where there is a run for each path, no step is met in vain.
		if !slices.Equal(passed, r.Met) {
			t.Fatalf("AnalyseProgram(%v) meets %v, the runs come to %v", p, r.Met, passed)
		}
	}
}

// Promise 13: each operation on two numbers of the context, and on one and each
// constant, with words that wrap around.
func TestDescribedOfEveryOperation(t *testing.T) {
	numbers := []int{0, 1, 2, 7, 8, 15, 16, 17, 127, 128, 254, 255}
	for _, op := range allOps {
		for _, ahead := range []string{"", "opi shl 0 8|op add 0 1|", "opi sub 0 3|", "opi and 0 240|opi or 1 5|", "opi div 0 3|opi mod 1 7|", "less 0 1 1|op xor 0 1|"} {
			front := "ctx 0 5 0|ctx 1 5 1|" + ahead
			var programs [][]impl.Step
			for _, regs := range []string{"0 1", "1 0", "0 0"} {
				programs = append(programs, stepsIn(front+"op "+opNames[op]+" "+regs+"|exit"))
			}
			for _, imm := range numbers {
				programs = append(programs, stepsIn(fmt.Sprint(front+"opi "+opNames[op]+" 0 ", imm, "|exit")))
			}
			for _, p := range programs {
				r := checkSurvey(t, p, wantSurvey(p))
				for _, a := range numbers {
					for _, b := range numbers {
						if end := checkDescribed(t, p, []int{a, b, 0, 0, 0, 0, 0, 0}, r); end != runEnded {
							t.Fatalf("%v: the run with %d and %d ends with %d", p, a, b, end)
						}
					}
				}
			}
		}
	}
}

// Promise 13: both sides of each comparison, for every pair of two numbers of
// the context in a small range, with constants added to them.
func TestDescribedOfComparisons(t *testing.T) {
	for _, kind := range []string{"eq", "less"} {
		for _, pair := range []string{"0 1", "1 0", "0 0", "0 2", "2 0"} {
			for _, shift := range []string{"opi add 0 0", "opi add 0 3", "opi sub 0 2", "opi and 0 6", "opi or 0 1", "opi mul 1 2"} {
				p := stepsIn("ctx 0 5 0|ctx 1 5 1|set 2 4|" + shift + "|" + kind + " " + pair + " 2|store 0 1|exit|store 1 2|" + kind + " " + pair + " 1|load 3 2|exit")
				r := checkSurvey(t, p, wantSurvey(p))
				for a := range 12 {
					for b := range 12 {
						checkDescribed(t, p, []int{a, b, 0, 0, 0, 0, 0, 0}, r)
					}
				}
			}
		}
	}
}

// badMays differ from a valid state in one thing.
func badMays(o outlook) map[string]impl.May {
	bad := map[string]impl.May{"the zero May": {}}
	change := func(name string, by func(m *impl.May)) {
		m := o.may()
		by(&m)
		bad[name] = m
	}
	for _, n := range []int{0, 1, 5, 7, 12, 16} {
		change(fmt.Sprint(n, " registers"), func(m *impl.May) { m.Reg = make([]impl.Stretch, n) })
		change(fmt.Sprint(n, " known bits"), func(m *impl.May) { m.Bits = make([]impl.Known, n) })
		change(fmt.Sprint(n, " registers and known bits"), func(m *impl.May) { m.Reg, m.Bits = make([]impl.Stretch, n), make([]impl.Known, n) })
	}
	for _, n := range []int{0, 1, 6, 15, 17, 32} {
		change(fmt.Sprint(n, " cells"), func(m *impl.May) { m.Cell = make([]impl.Stretch, n) })
		change(fmt.Sprint(n, " flags"), func(m *impl.May) { m.Set = make([]bool, n) })
		change(fmt.Sprint(n, " cells and flags"), func(m *impl.May) { m.Cell, m.Set = make([]impl.Stretch, n), make([]bool, n) })
	}
	change("a register less", func(m *impl.May) { m.Reg = m.Reg[:5] })
	change("known bits less", func(m *impl.May) { m.Bits = m.Bits[:5] })
	change("a cell less", func(m *impl.May) { m.Cell = m.Cell[:15] })
	change("a flag less", func(m *impl.May) { m.Set = m.Set[:15] })
	change("a register more", func(m *impl.May) { m.Reg = append(m.Reg, one(0)) })
	change("known bits more", func(m *impl.May) { m.Bits = append(m.Bits, exact(0)) })
	change("a cell more", func(m *impl.May) { m.Cell = append(m.Cell, one(0)) })
	change("a flag more", func(m *impl.May) { m.Set = append(m.Set, false) })
	change("registers nil", func(m *impl.May) { m.Reg = nil })
	change("known bits nil", func(m *impl.May) { m.Bits = nil })
	change("cells nil", func(m *impl.May) { m.Cell = nil })
	change("flags nil", func(m *impl.May) { m.Set = nil })
	for i, s := range badStretches() {
		for at := range 6 {
			change(fmt.Sprint("register ", at, " is ", s), func(m *impl.May) { m.Reg[at] = s })
		}
		for at := range 16 {
			change(fmt.Sprint("cell ", at, " is ", s), func(m *impl.May) { m.Cell[at], m.Set[at] = s, i%2 == 0 })
		}
	}
	for _, k := range badKnowns() {
		for at := range 6 {
			change(fmt.Sprint("register ", at, " matches ", k), func(m *impl.May) { m.Bits[at] = k })
		}
	}
	return bad
}

// stepsOfKinds has a step of each kind, also ones that would fault.
var stepsOfKinds = stepsIn("op add 0 1|opi sub 2 9|set 3 9|wide 4 999|ctx 0 1 2|ctx 1 4 7|load 2 3|load 2 99|store 1 4|store 0 99|jump 3|eq 0 1 4|less 2 2 5|exit")

func wantNoJoin(t *testing.T, name string, a, b impl.May) {
	t.Helper()
	if m, ok := impl.JoinMay(a, b); !isZeroMay(m) || ok {
		t.Errorf("JoinMay with %s = %v, %t", name, m, ok)
	}
}

func wantNoIn(t *testing.T, name string, m impl.May, x impl.Machine) {
	t.Helper()
	if in, ok := impl.InMay(m, x); in || ok {
		t.Errorf("InMay with %s = %t, %t", name, in, ok)
	}
}

func wantNoNext(t *testing.T, name string, s impl.Step, m impl.May) {
	t.Helper()
	if next, code, ok := impl.StepMay(s, m); !isZeroMay(next) || code != 0 || ok {
		t.Errorf("StepMay(%+v) with %s = %v, %d, %t", s, name, next, code, ok)
	}
}

func wantNoLeft(t *testing.T, name string, s impl.Step, m impl.May) {
	t.Helper()
	for _, taken := range []bool{false, true} {
		if left, possible, ok := impl.HeedJump(s, m, taken); !isZeroMay(left) || possible || ok {
			t.Errorf("HeedJump(%+v, taken %t) with %s = %v, %t, %t", s, taken, name, left, possible, ok)
		}
	}
}

// wantNoState checks that every function returns its zero result for a state
// that is not valid.
func wantNoState(t *testing.T, name string, m impl.May) {
	t.Helper()
	if impl.GoodMay(m) {
		t.Errorf("GoodMay accepts a state with %s", name)
	}
	good := middle().may()
	wantNoJoin(t, name, m, good)
	wantNoJoin(t, name, good, m)
	wantNoJoin(t, name, m, m)
	wantNoIn(t, name, m, impl.NewMachine())
	for _, s := range stepsOfKinds {
		wantNoNext(t, name, s, m)
		wantNoLeft(t, name, s, m)
	}
}

// Promise 19: states that are not valid.
func TestBadMays(t *testing.T) {
	for name, m := range badMays(middle()) {
		wantNoState(t, name, m)
	}
	for _, name := range []string{"a register more", "register 0 is {1 0}", "cell 15 is {1 0}", "register 5 matches {1 1}"} {
		m := badMays(middle())[name]
		for other, n := range badMays(startOutlook()) {
			wantNoJoin(t, name+" and "+other, m, n)
		}
	}
}

func TestGoodMay(t *testing.T) {
	g := lcg(1312)
	for range 2000 {
		if o := anyOutlook(&g); !impl.GoodMay(o.may()) {
			t.Fatalf("GoodMay rejects %v", o)
		}
	}
	for at := range 6 {
		for _, s := range edgeStretches() {
			o := startOutlook()
			o.reg[at], o.cell[15-at] = s, s
			if !impl.GoodMay(o.may()) {
				t.Errorf("GoodMay rejects %v", o)
			}
		}
		for _, k := range edgeKnowns() {
			o := startOutlook()
			o.bits[at] = k
			if !impl.GoodMay(o.may()) {
				t.Errorf("GoodMay rejects %v", o)
			}
		}
	}
	if !impl.GoodMay(outlook{}.may()) {
		t.Error("GoodMay rejects the state in which everything is exactly 0")
	}
}

// Promise 19: machines that are not valid.
func TestMaysOfBadMachines(t *testing.T) {
	open := outlook{}
	for i := range open.reg {
		open.reg[i], open.bits[i] = allOfThem, noneKnown
	}
	for i := range open.cell {
		open.cell[i] = allOfThem
	}
	for name, x := range badMachines(impl.NewMachine()) {
		before := cloneMachine(x)
		for _, o := range []outlook{startOutlook(), middle(), open} {
			wantNoIn(t, name, o.may(), x)
		}
		wantNoIn(t, name, impl.May{}, x)
		if !sameMachine(x, before) {
			t.Errorf("a machine with %s became %v", name, x)
		}
	}
}

// Promise 19: intervals and known bits that are not valid.
func TestReduceBothOfBadArguments(t *testing.T) {
	check := func(s impl.Stretch, k impl.Known) {
		t.Helper()
		if x, y, ok := impl.ReduceBoth(s, k); x != (impl.Stretch{}) || y != (impl.Known{}) || ok {
			t.Errorf("ReduceBoth(%v, %v) = %v, %v, %t", s, k, x, y, ok)
		}
	}
	for _, s := range badStretches() {
		for _, k := range edgeKnowns() {
			check(s, k)
		}
		for _, k := range badKnowns() {
			check(s, k)
		}
	}
	for _, k := range badKnowns() {
		for _, s := range edgeStretches() {
			check(s, k)
		}
	}
}

func TestReduceBothWithOddNumbers(t *testing.T) {
	g := lcg(1313)
	for range 30000 {
		s, k := from(oftenSmall(&g), oftenSmall(&g)), known(oftenSmall(&g), oftenSmall(&g))
		wantS, wantK, possible := impl.Stretch{}, impl.Known{}, false
		if wantGoodStretch(s) && wantGoodKnown(k) {
			wantS, wantK, possible = wantReduced(s, k)
		}
		if x, y, ok := impl.ReduceBoth(s, k); x != wantS || y != wantK || ok != possible {
			t.Fatalf("ReduceBoth(%v, %v) = %v, %v, %t, want %v, %v, %t", s, k, x, y, ok, wantS, wantK, possible)
		}
	}
}

// Promise 19: StepMay answers exactly if the step is valid, HeedJump if it is
// also a StEq or a StLess.
func TestMaysOfOddSteps(t *testing.T) {
	m := middle().may()
	good, jumps := 0, 0
	for _, row := range kindRows {
		for _, s := range endSteps(row) {
			visit := func(s impl.Step) {
				if !wantGoodStep(s) {
					wantNoNext(t, "an odd step", s, m)
					wantNoLeft(t, "an odd step", s, m)
					return
				}
				good++
				checkNext(t, s, middle())
				if s.Kind != impl.StEq && s.Kind != impl.StLess {
					wantNoLeft(t, "a step of another kind", s, m)
					return
				}
				jumps++
				checkLeft(t, s, middle(), false)
				checkLeft(t, s, middle(), true)
			}
			for _, n := range oddNumbers {
				visit(stepOfFields(n, fieldsOfStep(s)))
				for i := range 5 {
					f := fieldsOfStep(s)
					f[i] = n
					visit(stepOfFields(s.Kind, f))
				}
			}
		}
	}
	if good < 1000 || jumps < 100 {
		t.Errorf("%d steps, %d jumps", good, jumps)
	}
}

func isZeroReport(r impl.Report) bool {
	return len(r.Met) == 0 && len(r.Mays) == 0 && len(r.Bad) == 0
}

func wantNoReport(t *testing.T, name string, p []impl.Step) {
	t.Helper()
	if r, ok := impl.AnalyseProgram(p); !isZeroReport(r) || ok {
		t.Errorf("AnalyseProgram of %s = %v, %t", name, r, ok)
	}
}

// Promise 19: programs that are not valid, also for a step that is not met.
func TestReportsOfBadPrograms(t *testing.T) {
	for name, p := range badPrograms() {
		wantNoReport(t, name, p)
	}
	for _, c := range reportCases {
		for at := range stepsIn(c.program) {
			for _, bad := range []impl.Step{{}, {Kind: 12}, {Kind: impl.StJump}, {Kind: impl.StEq, To: 19}, {Kind: impl.StLess, Src: 6, To: 1}, {Kind: impl.StExit, To: 1}, {Kind: impl.StSet, Dst: -1}} {
				p := stepsIn(c.program)
				p[at] = bad
				wantNoReport(t, fmt.Sprint(p), p)
			}
		}
	}
	eachOddStep(func(s impl.Step) {
		p := []impl.Step{s, {Kind: impl.StSet}, {Kind: impl.StExit}}
		if _, ok := impl.AnalyseProgram(p); ok != wantGoodProgram(p) {
			t.Errorf("AnalyseProgram(%v) returns %t", p, ok)
		}
	})
}

// roomyMay has numbers that are not valid in the room behind its lists.
func roomyMay(o outlook) impl.May {
	reg := append(slices.Clone(o.reg[:]), from(-5, 70000), one(3))
	bits := append(slices.Clone(o.bits[:]), known(-5, 70000), exact(3))
	cell := append(slices.Clone(o.cell[:]), from(-6, 70001), one(4))
	set := append(slices.Clone(o.set[:]), true, false)
	return impl.May{Reg: reg[:6], Bits: bits[:6], Cell: cell[:16], Set: set[:16]}
}

// wholeMay returns the lists with two elements of the room behind them.
func wholeMay(m impl.May) impl.May {
	return impl.May{Reg: m.Reg[:8], Bits: m.Bits[:8], Cell: m.Cell[:18], Set: m.Set[:18]}
}

func cloneMay(m impl.May) impl.May {
	return impl.May{Reg: slices.Clone(m.Reg), Bits: slices.Clone(m.Bits), Cell: slices.Clone(m.Cell), Set: slices.Clone(m.Set)}
}

func sameMay(a, b impl.May) bool {
	return slices.Equal(a.Reg, b.Reg) && slices.Equal(a.Bits, b.Bits) && slices.Equal(a.Cell, b.Cell) && slices.Equal(a.Set, b.Set)
}

// maysOf calls every function of the chapter and returns the states.
func maysOf(a, b impl.May, x impl.Machine, p []impl.Step) []impl.May {
	impl.GoodMay(a)
	impl.InMay(a, x)
	l := []impl.May{impl.StartMay()}
	joined, _ := impl.JoinMay(a, b)
	itself, _ := impl.JoinMay(a, a)
	l = append(l, joined, itself)
	for _, s := range p {
		next, _, _ := impl.StepMay(s, a)
		taken, _, _ := impl.HeedJump(s, a, true)
		not, _, _ := impl.HeedJump(s, a, false)
		l = append(l, next, taken, not)
	}
	r, _ := impl.AnalyseProgram(p)
	return append(l, r.Mays...)
}

// Promise 19: no argument is changed, up to the capacity of its memory, and what
// is behind the length of a list does not count.
func TestMayArgumentsAreNotChanged(t *testing.T) {
	g := lcg(1314)
	for i := range 400 {
		o, q := anyOutlook(&g), anyOutlook(&g)
		a, b := roomyMay(o), roomyMay(q)
		x := roomy(someFrame(&g, g.below(20)).machine())
		steps := append(calmProgram(&g, 1+g.below(20), 30), impl.Step{Kind: 99}, impl.Step{Kind: impl.StExit})
		p := steps[:len(steps)-2]
		if i%4 == 0 {
			a.Reg[g.below(6)] = badStretches()[g.below(40)]
			x.Regs[g.below(6)] = oftenSmall(&g)
			p[g.below(len(p))].To = oftenSmall(&g)
		} else {
			checkRoomy(t, o, q, x, p)
		}
		wantA, wantB, wantX, wantSteps := cloneMay(wholeMay(a)), cloneMay(wholeMay(b)), cloneMachine(x), slices.Clone(steps)
		maysOf(a, b, x, p)
		maysOf(a, b, x, append(p, stepsOfKinds...)[:len(p)])
		if !sameMay(wholeMay(a), wantA) || !sameMay(wholeMay(b), wantB) {
			t.Fatalf("%v and %v became %v and %v", wantA, wantB, a, b)
		}
		copy(steps[len(p):], wantSteps[len(p):])
		if !sameMachine(x, wantX) || !slices.Equal(steps, wantSteps) {
			t.Fatalf("%v and %v became %v and %v", wantX, wantSteps, x, steps)
		}
	}
}

// checkRoomy compares the results for lists with room behind them with those
// for lists without.
func checkRoomy(t *testing.T, o, q outlook, x impl.Machine, p []impl.Step) {
	t.Helper()
	with := maysOf(roomyMay(o), roomyMay(q), x, p)
	without := maysOf(o.may(), q.may(), cloneMachine(x), slices.Clone(p))
	if !slices.EqualFunc(with, without, sameMay) || !impl.GoodMay(roomyMay(o)) {
		t.Fatalf("%v and %v: %v with room behind the lists, %v without", o, q, with, without)
	}
}

// A state whose lists are too short is not valid, whatever is behind them.
func TestMaysBehindTheLength(t *testing.T) {
	for part := range 4 {
		m := middle().may()
		switch part {
		case 0:
			m.Reg = m.Reg[:5]
		case 1:
			m.Bits = m.Bits[:5]
		case 2:
			m.Cell = m.Cell[:15]
		case 3:
			m.Set = m.Set[:15]
		}
		wantNoState(t, fmt.Sprint("a short list ", part), m)
		wantNoState(t, fmt.Sprint("a long list ", part), longer(middle(), part))
	}
	steps := append(stepsIn("ctx 0 5 0|exit"), impl.Step{Kind: 99}, impl.Step{Kind: impl.StExit})
	for size := range 5 {
		if _, ok := impl.AnalyseProgram(steps[:size]); ok != (size == 2) {
			t.Errorf("AnalyseProgram of %d steps returns %t", size, ok)
		}
	}
}

func longer(o outlook, part int) impl.May {
	m, whole := o.may(), wholeMay(roomyMay(o))
	switch part {
	case 0:
		m.Reg = whole.Reg[:7]
	case 1:
		m.Bits = whole.Bits[:7]
	case 2:
		m.Cell = whole.Cell[:17]
	case 3:
		m.Set = whole.Set[:17]
	}
	return m
}

// spoilMay overwrites one list of a state up to its capacity, or all of them.
func spoilMay(m impl.May, part int) {
	if part == 0 || part == 4 {
		for i := range m.Reg[:cap(m.Reg)] {
			m.Reg[:cap(m.Reg)][i] = from(-7, -8)
		}
	}
	if part == 1 || part == 4 {
		for i := range m.Bits[:cap(m.Bits)] {
			m.Bits[:cap(m.Bits)][i] = known(-7, -8)
		}
	}
	if part == 2 || part == 4 {
		for i := range m.Cell[:cap(m.Cell)] {
			m.Cell[:cap(m.Cell)][i] = from(-9, -10)
		}
	}
	if part == 3 || part == 4 {
		for i := range m.Set[:cap(m.Set)] {
			m.Set[:cap(m.Set)][i] = !m.Set[:cap(m.Set)][i]
		}
	}
}

// Promise 19: the lists of the states share no memory with the arguments, with
// each other or with those of another call, also where a state is unchanged.
func TestMaysAreNewMemory(t *testing.T) {
	g := lcg(1315)
	for range 25 {
		x := someFrame(&g, 0)
		o, q := someOutlook(&g, x), anyOutlook(&g)
		a, b := o.may(), q.may()
		p := slices.Concat(stepsOfKinds[:len(stepsOfKinds)-1], []impl.Step{someStep(&g)})
		if g.below(2) == 0 {
			p = calmProgram(&g, 20, 30)
		}
		call := func() []impl.May { return maysOf(a, b, x.machine(), p) }
		want := call()
		for i, m := range want {
			want[i] = cloneMay(m)
		}
		for i := range want {
			for part := range 5 {
				l := call()
				spoilMay(l[i], part)
				one := cloneMay(want[i])
				spoilMay(one, part)
				if !sameMay(l[i], one) {
					t.Fatalf("two lists of %v share memory", want[i])
				}
				l[i] = want[i]
				if !slices.EqualFunc(l, want, sameMay) {
					t.Fatalf("two states share memory: %v became %v", want, l)
				}
			}
		}
		if !isMay(a, o) || !isMay(b, q) {
			t.Fatalf("a result shares memory with its argument: %v and %v became %v and %v", o, q, a, b)
		}
		kept := call()
		spoilMay(a, 4)
		spoilMay(b, 4)
		if !slices.EqualFunc(kept, want, sameMay) {
			t.Fatalf("%v became %v with the arguments", want, kept)
		}
	}
}

// Promise 19: the lists of a Report are new memory too.
func TestReportsAreNewMemory(t *testing.T) {
	g := lcg(1316)
	for range 60 {
		p := calmProgram(&g, 20, 40)
		v := wantSurvey(p)
		before := slices.Clone(p)
		report := func() impl.Report { r, _ := impl.AnalyseProgram(p); return r }
		checkNew(t, func() []bool { return report().Met }, true)
		checkNew(t, func() []int { return report().Bad }, -7)
		for part := range 3 {
			r := report()
			switch part {
			case 0:
				for i := range r.Met[:cap(r.Met)] {
					r.Met[:cap(r.Met)][i] = !r.Met[:cap(r.Met)][i]
				}
				r.Met = v.met
			case 1:
				for i := range r.Bad[:cap(r.Bad)] {
					r.Bad[:cap(r.Bad)][i] = -7
				}
				r.Bad = v.bad
			case 2:
				whole := r.Mays[:cap(r.Mays)]
				for i := range whole {
					spoilMay(whole[i], 4)
					whole[i] = impl.May{}
				}
				r.Mays = report().Mays
			}
			for at, m := range r.Mays {
				if v.met[at] && !isMay(m, v.states[at]) || !v.met[at] && !isZeroMay(m) {
					t.Fatalf("two lists of the report of %v share memory: step %d has %v", p, at, m)
				}
			}
			if !slices.Equal(r.Met, v.met) || !slices.Equal(r.Bad, v.bad) {
				t.Fatalf("two lists of the report of %v share memory: %v, %v", p, r.Met, r.Bad)
			}
			checkSurvey(t, p, v)
		}
		if !slices.Equal(p, before) {
			t.Fatalf("the report of %v shares its memory", before)
		}
	}
}

// StartMay is the same each time, whatever became of the last one.
func TestStartMayIsKept(t *testing.T) {
	for part := range 5 {
		spoilMay(impl.StartMay(), part)
		if m := impl.StartMay(); !isMay(m, startOutlook()) {
			t.Fatalf("StartMay() = %v after its last result was changed", m)
		}
	}
}
