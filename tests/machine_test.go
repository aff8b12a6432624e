package tests

import (
	"fmt"
	"math"
	"slices"
	"testing"

	"loop.example/g00605/impl"
)

// A frame is a machine whose lists are arrays, so that it is compared and
// copied as a value and its numbers are words by their type.
type frame struct {
	at    int
	regs  [6]uint16
	cells [16]uint16
	set   [16]bool
}

func (x frame) machine() impl.Machine {
	m := impl.Machine{At: x.at, Set: slices.Clone(x.set[:])}
	for _, n := range x.regs {
		m.Regs = append(m.Regs, int(n))
	}
	for _, n := range x.cells {
		m.Cells = append(m.Cells, int(n))
	}
	return m
}

// wantStep follows the document's table of effects and faults.
func wantStep(s impl.Step, ctx []int, x frame) (after frame, code int, ended bool) {
	x.at++
	switch s.Kind {
	case impl.StOp:
		x.regs[s.Dst] = uint16(wantOp(s.Op, int(x.regs[s.Dst]), int(x.regs[s.Src])))
	case impl.StOpImm:
		x.regs[s.Dst] = uint16(wantOp(s.Op, int(x.regs[s.Dst]), s.Imm))
	case impl.StSet, impl.StWide:
		x.regs[s.Dst] = uint16(s.Imm)
	case impl.StCtx:
		if int(x.regs[s.Src])+s.Imm > 7 {
			return frame{}, 1, false
		}
		x.regs[s.Dst] = uint16(ctx[int(x.regs[s.Src])+s.Imm])
	case impl.StLoad:
		if s.Imm > 15 {
			return frame{}, 2, false
		}
		if !x.set[s.Imm] {
			return frame{}, 3, false
		}
		x.regs[s.Dst] = x.cells[s.Imm]
	case impl.StStore:
		if s.Imm > 15 {
			return frame{}, 2, false
		}
		x.cells[s.Imm], x.set[s.Imm] = x.regs[s.Dst], true
	case impl.StJump:
		x.at += s.To
	case impl.StEq:
		if x.regs[s.Dst] == x.regs[s.Src] {
			x.at += s.To
		}
	case impl.StLess:
		if x.regs[s.Dst] < x.regs[s.Src] {
			x.at += s.To
		}
	case impl.StExit:
		x.at--
		return x, 0, true
	}
	return x, 0, false
}

// wantRun runs a program to its end or to a fault. It returns the steps that
// are begun, register 0 at the end and the code of the fault.
func wantRun(p []impl.Step, ctx []int) (begun []int, result int, code int) {
	x := frame{}
	for {
		begun = append(begun, x.at)
		after, code, ended := wantStep(p[x.at], ctx, x)
		if code != 0 {
			return begun, 0, code
		}
		if ended {
			return begun, int(after.regs[0]), 0
		}
		x = after
	}
}

func sameMachine(a, b impl.Machine) bool {
	return a.At == b.At && slices.Equal(a.Regs, b.Regs) && slices.Equal(a.Cells, b.Cells) && slices.Equal(a.Set, b.Set)
}

func cloneMachine(m impl.Machine) impl.Machine {
	return impl.Machine{At: m.At, Regs: slices.Clone(m.Regs), Cells: slices.Clone(m.Cells), Set: slices.Clone(m.Set)}
}

func checkStep(t *testing.T, p []impl.Step, ctx []int, x frame) {
	t.Helper()
	after, code, ended := wantStep(p[x.at], ctx, x)
	want := impl.Machine{}
	if code == 0 {
		want = after.machine()
	}
	m, gotCode, gotEnded, ok := impl.DoStep(p, ctx, x.machine())
	if !sameMachine(m, want) || gotCode != code || gotEnded != ended || !ok {
		t.Fatalf("DoStep of %+v on %v returns %v, %d, %t, %t, want %v, %d, %t, true", p[x.at], x, m, gotCode, gotEnded, ok, want, code, ended)
	}
	if code == 0 && !impl.GoodMachine(m) {
		t.Fatalf("DoStep of %+v returns a machine that is not valid: %v", p[x.at], m)
	}
}

// checkRuns compares TraceOf, FaultFree and RunProgram with every fuel.
func checkRuns(t *testing.T, p []impl.Step, ctx []int) {
	t.Helper()
	begun, result, code := wantRun(p, ctx)
	if l, f, ok := impl.TraceOf(p, ctx); !slices.Equal(l, begun) || f != code || !ok {
		t.Fatalf("TraceOf(%v, %v) = %v, %d, %t, want %v, %d, true", p, ctx, l, f, ok, begun, code)
	}
	if a, ok := impl.FaultFree(p, ctx); a != (code == 0) || !ok {
		t.Fatalf("FaultFree(%v, %v) = %t, %t", p, ctx, a, ok)
	}
	for fuel := range 101 {
		r, f, at := result, code, 0
		if code != 0 {
			at = begun[len(begun)-1]
		}
		if fuel < len(begun) {
			r, f, at = 0, impl.FtFuel, begun[fuel]
		}
		if gr, gf, gat, ok := impl.RunProgram(p, ctx, fuel); gr != r || gf != f || gat != at || !ok {
			t.Fatalf("RunProgram(%v, %v, %d) = %d, %d, %d, %t, want %d, %d, %d, true", p, ctx, fuel, gr, gf, gat, ok, r, f, at)
		}
	}
}

// wantFault checks that a program has a fault, which RunProgram, TraceOf and
// FaultFree all say. The code 0 stands for none.
func wantFault(t *testing.T, p []impl.Step, ctx []int, code int, at int) {
	t.Helper()
	if _, f, gotAt, ok := impl.RunProgram(p, ctx, 100); f != code || gotAt != at || !ok {
		t.Errorf("RunProgram(%v, %v, 100) has the fault %d at %d, %t, want %d at %d", p, ctx, f, gotAt, ok, code, at)
	}
	l, f, ok := impl.TraceOf(p, ctx)
	if f != code || !ok || len(l) == 0 || code != 0 && l[len(l)-1] != at {
		t.Errorf("TraceOf(%v, %v) = %v, %d, %t, want the fault %d at %d", p, ctx, l, f, ok, code, at)
	}
	if a, ok := impl.FaultFree(p, ctx); a != (code == 0) || !ok {
		t.Errorf("FaultFree(%v, %v) = %t, %t", p, ctx, a, ok)
	}
}

// someContext has the ends of the bytes more often than other numbers.
func someContext(g *lcg) []int {
	ctx := make([]int, 8)
	for i := range ctx {
		ctx[i] = []int{0, 1, 7, 255, g.below(256)}[g.below(5)]
	}
	return ctx
}

func someFrame(g *lcg, at int) frame {
	x := frame{at: at}
	for i := range x.regs {
		x.regs[i] = uint16([]int{edgeWords[g.below(len(edgeWords))], g.below(65536), g.below(9), 65535 - g.below(9)}[g.below(4)])
	}
	for i := range x.cells {
		// Cells that are not set have numbers too.
		x.cells[i] = uint16(g.below(65536))
		x.set[i] = g.below(2) == 0
	}
	return x
}

// tameProgram mostly uses few cells, and reads few elements of the context
// with a register, so that many runs come to their end.
func tameProgram(g *lcg) []impl.Step {
	p := someProgram(g)
	for i, s := range p {
		switch s.Kind {
		case impl.StLoad, impl.StStore:
			p[i].Imm = []int{0, 1, 15, 14, 16}[g.below(5)]
			if g.below(3) > 0 {
				p[i].Kind, p[i].Imm = impl.StStore, g.below(3)
			}
		case impl.StCtx:
			p[i].Src = g.below(3) + 3
			p[i].Dst = g.below(3)
		case impl.StSet, impl.StOpImm:
			p[i].Imm = g.below(9)
		}
	}
	return p
}

var zeroContext = []int{0, 0, 0, 0, 0, 0, 0, 0}

// plainContext has a different number at each index.
var plainContext = []int{10, 21, 32, 43, 54, 65, 76, 255}

func TestMachineConstants(t *testing.T) {
	if impl.CtxSize != 8 || impl.Cells != 16 {
		t.Errorf("CtxSize = %d, Cells = %d", impl.CtxSize, impl.Cells)
	}
	if impl.FtCtx != 1 || impl.FtCell != 2 || impl.FtUnset != 3 || impl.FtFuel != 4 {
		t.Errorf("the faults are %d, %d, %d, %d", impl.FtCtx, impl.FtCell, impl.FtUnset, impl.FtFuel)
	}
}

func TestNewMachine(t *testing.T) {
	want := impl.Machine{Regs: make([]int, 6), Cells: make([]int, 16), Set: make([]bool, 16)}
	m := impl.NewMachine()
	if !sameMachine(m, want) || !impl.GoodMachine(m) {
		t.Fatalf("NewMachine() = %v", m)
	}
	spoil(m)
	if again := impl.NewMachine(); !sameMachine(again, want) {
		t.Errorf("NewMachine() = %v after its last result was changed", again)
	}
}

// spoil overwrites the lists of a machine up to their capacity.
func spoil(m impl.Machine) {
	for i := range m.Regs[:cap(m.Regs)] {
		m.Regs[:cap(m.Regs)][i] = -7
	}
	for i := range m.Cells[:cap(m.Cells)] {
		m.Cells[:cap(m.Cells)][i] = -8
	}
	for i := range m.Set[:cap(m.Set)] {
		m.Set[:cap(m.Set)][i] = !m.Set[:cap(m.Set)][i]
	}
}

// badMachines returns machines that differ from a valid one in one thing.
func badMachines(m impl.Machine) map[string]impl.Machine {
	bad := map[string]impl.Machine{"the zero machine": {}}
	change := func(name string, by func(x *impl.Machine)) {
		x := cloneMachine(m)
		by(&x)
		bad[name] = x
	}
	for _, at := range []int{math.MinInt, math.MinInt + 1, -1 << 32, -20, -1, 20, 21, 255, 1 << 32, math.MaxInt} {
		change(fmt.Sprint("At ", at), func(x *impl.Machine) { x.At = at })
	}
	for _, n := range []int{0, 1, 5, 7, 8, 16, 100} {
		change(fmt.Sprint(n, " registers"), func(x *impl.Machine) { x.Regs = make([]int, n) })
	}
	for _, n := range []int{0, 1, 6, 15, 17, 32, 100} {
		change(fmt.Sprint(n, " cells"), func(x *impl.Machine) { x.Cells = make([]int, n) })
		change(fmt.Sprint(n, " flags"), func(x *impl.Machine) { x.Set = make([]bool, n) })
		change(fmt.Sprint(n, " cells and flags"), func(x *impl.Machine) { x.Cells, x.Set = make([]int, n), make([]bool, n) })
	}
	change("registers nil", func(x *impl.Machine) { x.Regs = nil })
	change("cells nil", func(x *impl.Machine) { x.Cells = nil })
	change("flags nil", func(x *impl.Machine) { x.Set = nil })
	for _, n := range nonWords {
		for i := range m.Regs {
			change(fmt.Sprint("register ", i, " is ", n), func(x *impl.Machine) { x.Regs[i] = n })
		}
		for i := range m.Cells {
			change(fmt.Sprint("cell ", i, " is ", n), func(x *impl.Machine) { x.Cells[i], x.Set[i] = n, i%2 == 0 })
		}
	}
	return bad
}

func TestGoodMachine(t *testing.T) {
	g := lcg(31)
	for at := range 20 {
		for range 20 {
			if m := someFrame(&g, at).machine(); !impl.GoodMachine(m) {
				t.Fatalf("GoodMachine rejects %v", m)
			}
		}
	}
	for _, n := range edgeWords {
		m := impl.NewMachine()
		m.At, m.Regs[5], m.Cells[15] = 19, n, n
		if !impl.GoodMachine(m) {
			t.Errorf("GoodMachine rejects register 5 and cell 15 with %d", n)
		}
	}
	for name, m := range badMachines(someFrame(&g, 1).machine()) {
		if impl.GoodMachine(m) {
			t.Errorf("GoodMachine accepts a machine with %s", name)
		}
	}
}

// Promise 3: the effect of each kind of step, in numbers that are written out.
func TestEffects(t *testing.T) {
	start := frame{at: 1, regs: [6]uint16{7, 65535, 3, 0, 40000, 7}}
	start.cells[2], start.set[2] = 9999, true
	start.cells[15], start.set[15] = 65535, true
	start.cells[4] = 44
	cases := []struct {
		s      impl.Step
		change func(x *frame)
	}{
		{impl.Step{Kind: impl.StOp, Op: impl.OpAdd, Dst: 1, Src: 2}, func(x *frame) { x.at, x.regs[1] = 2, 2 }},
		{impl.Step{Kind: impl.StOp, Op: impl.OpSub, Dst: 2, Src: 0}, func(x *frame) { x.at, x.regs[2] = 2, 65532 }},
		{impl.Step{Kind: impl.StOp, Op: impl.OpSub, Dst: 0, Src: 0}, func(x *frame) { x.at, x.regs[0] = 2, 0 }},
		{impl.Step{Kind: impl.StOp, Op: impl.OpDiv, Dst: 0, Src: 3}, func(x *frame) { x.at, x.regs[0] = 2, 0 }},
		{impl.Step{Kind: impl.StOp, Op: impl.OpMod, Dst: 4, Src: 3}, func(x *frame) { x.at = 2 }},
		{impl.Step{Kind: impl.StOpImm, Op: impl.OpMul, Dst: 4, Imm: 255}, func(x *frame) { x.at, x.regs[4] = 2, 41920 }},
		{impl.Step{Kind: impl.StOpImm, Op: impl.OpShr, Dst: 4, Imm: 17}, func(x *frame) { x.at, x.regs[4] = 2, 20000 }},
		{impl.Step{Kind: impl.StOpImm, Op: impl.OpSub, Dst: 3, Imm: 1}, func(x *frame) { x.at, x.regs[3] = 2, 65535 }},
		{impl.Step{Kind: impl.StSet, Dst: 1}, func(x *frame) { x.at, x.regs[1] = 2, 0 }},
		{impl.Step{Kind: impl.StSet, Dst: 5, Imm: 255}, func(x *frame) { x.at, x.regs[5] = 2, 255 }},
		{impl.Step{Kind: impl.StWide, Dst: 5, Imm: 65535}, func(x *frame) { x.at, x.regs[5] = 2, 65535 }},
		{impl.Step{Kind: impl.StWide, Dst: 0, Imm: 256}, func(x *frame) { x.at, x.regs[0] = 2, 256 }},
		{impl.Step{Kind: impl.StCtx, Dst: 4, Src: 3, Imm: 1}, func(x *frame) { x.at, x.regs[4] = 2, 21 }},
		{impl.Step{Kind: impl.StCtx, Dst: 4, Src: 2, Imm: 2}, func(x *frame) { x.at, x.regs[4] = 2, 65 }},
		{impl.Step{Kind: impl.StCtx, Dst: 0, Src: 0}, func(x *frame) { x.at, x.regs[0] = 2, 255 }},
		{impl.Step{Kind: impl.StLoad, Dst: 3, Imm: 2}, func(x *frame) { x.at, x.regs[3] = 2, 9999 }},
		{impl.Step{Kind: impl.StLoad, Dst: 5, Imm: 15}, func(x *frame) { x.at, x.regs[5] = 2, 65535 }},
		{impl.Step{Kind: impl.StStore, Dst: 4, Imm: 4}, func(x *frame) { x.at, x.cells[4], x.set[4] = 2, 40000, true }},
		{impl.Step{Kind: impl.StStore, Dst: 3, Imm: 15}, func(x *frame) { x.at, x.cells[15] = 2, 0 }},
		{impl.Step{Kind: impl.StStore, Dst: 0, Imm: 0}, func(x *frame) { x.at, x.cells[0], x.set[0] = 2, 7, true }},
		{impl.Step{Kind: impl.StJump, To: 1}, func(x *frame) { x.at = 3 }},
		{impl.Step{Kind: impl.StJump, To: 17}, func(x *frame) { x.at = 19 }},
		{impl.Step{Kind: impl.StEq, Dst: 0, Src: 5, To: 3}, func(x *frame) { x.at = 5 }},
		{impl.Step{Kind: impl.StEq, Dst: 0, Src: 2, To: 3}, func(x *frame) { x.at = 2 }},
		{impl.Step{Kind: impl.StLess, Dst: 2, Src: 0, To: 3}, func(x *frame) { x.at = 5 }},
		{impl.Step{Kind: impl.StLess, Dst: 0, Src: 2, To: 3}, func(x *frame) { x.at = 2 }},
	}
	for _, c := range cases {
		p := slices.Repeat([]impl.Step{{Kind: impl.StExit}}, 20)
		p[1] = c.s
		want := start
		c.change(&want)
		m, code, ended, ok := impl.DoStep(p, plainContext, start.machine())
		if !sameMachine(m, want.machine()) || code != 0 || ended || !ok {
			t.Errorf("DoStep of %+v returns %v, %d, %t, %t, want %v, 0, false, true", c.s, m, code, ended, ok, want)
		}
		checkStep(t, p, plainContext, start)
	}
}

// Promise 3: every operation on words at which its result changes.
func TestOperationsOfSteps(t *testing.T) {
	for _, op := range allOps {
		for _, a := range edgeWords {
			for _, b := range edgeWords {
				x := frame{regs: [6]uint16{1, uint16(a), 2, 3, uint16(b), 4}}
				checkStep(t, hold(impl.Step{Kind: impl.StOp, Op: op, Dst: 1, Src: 4}), zeroContext, x)
				checkStep(t, hold(impl.Step{Kind: impl.StOp, Op: op, Dst: 4, Src: 4}), zeroContext, x)
				if b < 256 {
					checkStep(t, hold(impl.Step{Kind: impl.StOpImm, Op: op, Dst: 1, Imm: b}), zeroContext, x)
				}
			}
		}
	}
}

// Promise 3: every kind of step, anywhere in a program, on any machine.
func TestStepsOnArbitraryMachines(t *testing.T) {
	g := lcg(32)
	met := map[[2]int]int{}
	for range 6000 {
		p := tameProgram(&g)
		ctx := someContext(&g)
		for at := range p {
			x := someFrame(&g, at)
			checkStep(t, p, ctx, x)
			_, code, _ := wantStep(p[at], ctx, x)
			met[[2]int{p[at].Kind, code}]++
		}
	}
	for kind := impl.StOp; kind <= impl.StExit; kind++ {
		if met[[2]int{kind, 0}] < 100 {
			t.Errorf("the kind %d was executed %d times only", kind, met[[2]int{kind, 0}])
		}
	}
	for _, f := range [][2]int{{impl.StCtx, 1}, {impl.StLoad, 2}, {impl.StLoad, 3}, {impl.StStore, 2}} {
		if met[f] < 100 {
			t.Errorf("the fault %d of the kind %d was met %d times only", f[1], f[0], met[f])
		}
	}
}

// Promise 3: an element of the context that is not there. The sum of the
// register and Imm is not a word that wraps around.
func TestContextElements(t *testing.T) {
	for imm := range 8 {
		for _, reg := range []int{0, 1, 6, 7, 8, 9, 15, 16, 255, 256, 32767, 32768, 65528, 65529, 65530, 65534, 65535} {
			x := frame{regs: [6]uint16{2, 3, uint16(reg), 4, 5, 6}}
			m, code, ended, ok := impl.DoStep(hold(impl.Step{Kind: impl.StCtx, Dst: 1, Src: 2, Imm: imm}), plainContext, x.machine())
			if reg+imm >= 8 {
				if !sameMachine(m, impl.Machine{}) || code != impl.FtCtx || ended || !ok {
					t.Errorf("the element %d + %d of the context: %v, %d, %t, %t", reg, imm, m, code, ended, ok)
				}
				continue
			}
			x.at, x.regs[1] = 1, uint16(plainContext[reg+imm])
			if !sameMachine(m, x.machine()) || code != 0 || ended || !ok {
				t.Errorf("the element %d + %d of the context: %v, %d, %t, %t", reg, imm, m, code, ended, ok)
			}
		}
	}
}

func TestContextFaultsOfRuns(t *testing.T) {
	for _, c := range []struct {
		reg, imm, code int
	}{{7, 0, 0}, {0, 7, 0}, {1, 6, 0}, {8, 0, 1}, {1, 7, 1}, {7, 1, 1}, {255, 7, 1}, {65535, 0, 1}, {65535, 1, 1}, {65529, 7, 1}} {
		first := impl.Step{Kind: impl.StSet, Dst: 3, Imm: c.reg}
		if c.reg > 255 {
			first.Kind = impl.StWide
		}
		p := []impl.Step{first, {Kind: impl.StCtx, Src: 3, Imm: c.imm}, {Kind: impl.StExit}}
		at := 0
		if c.code != 0 {
			at = 1
		}
		wantFault(t, p, plainContext, c.code, at)
		if r, _, _, _ := impl.RunProgram(p, plainContext, 100); c.code == 0 && r != 255 {
			t.Errorf("%v returns %d", p, r)
		}
	}
}

// Promise 3: a cell that does not exist, for a load and for a store; for a
// load of one, that it is not set does not count.
func TestCellsThatDoNotExist(t *testing.T) {
	for imm := range 256 {
		x := frame{regs: [6]uint16{1, 2, 3, 4, 5, 6}}
		for _, full := range []bool{false, true} {
			for i := range x.set {
				x.cells[i], x.set[i] = uint16(100+i), full
			}
			for _, s := range []impl.Step{{Kind: impl.StLoad, Dst: 1, Imm: imm}, {Kind: impl.StStore, Dst: 2, Imm: imm}} {
				want := 0
				if imm >= 16 {
					want = impl.FtCell
				} else if s.Kind == impl.StLoad && !full {
					want = impl.FtUnset
				}
				m, code, ended, ok := impl.DoStep(hold(s), zeroContext, x.machine())
				if code != want || ended || !ok || want != 0 && !sameMachine(m, impl.Machine{}) {
					t.Errorf("DoStep of %+v with cells set %t returns %v, %d, %t, %t, want the fault %d", s, full, m, code, ended, ok, want)
				}
				checkStep(t, hold(s), zeroContext, x)
			}
		}
	}
}

func TestCellFaultsOfRuns(t *testing.T) {
	exit := impl.Step{Kind: impl.StExit}
	for _, c := range []struct{ imm, store, load int }{{0, 0, 3}, {15, 0, 3}, {16, 2, 2}, {17, 2, 2}, {255, 2, 2}} {
		store, load := impl.Step{Kind: impl.StStore, Imm: c.imm}, impl.Step{Kind: impl.StLoad, Imm: c.imm}
		at := 0
		if c.store != 0 {
			at = 1
		}
		wantFault(t, []impl.Step{{Kind: impl.StSet, Imm: 8}, store, exit}, zeroContext, c.store, at)
		wantFault(t, []impl.Step{{Kind: impl.StSet, Imm: 8}, store, load, exit}, zeroContext, c.store, at)
		wantFault(t, []impl.Step{{Kind: impl.StSet, Imm: 8}, load, exit}, zeroContext, c.load, 1)
	}
}

// Promise 3: a load of a cell that was not stored to, each cell by itself.
func TestCellsThatAreNotSet(t *testing.T) {
	for stored := range 16 {
		for loaded := range 16 {
			p := []impl.Step{
				{Kind: impl.StWide, Dst: 4, Imm: 1000 + stored},
				{Kind: impl.StStore, Dst: 4, Imm: stored},
				{Kind: impl.StLoad, Dst: 0, Imm: loaded},
				{Kind: impl.StExit},
			}
			code, at, result := 0, 0, 1000+stored
			if loaded != stored {
				code, at, result = impl.FtUnset, 2, 0
			}
			wantFault(t, p, zeroContext, code, at)
			if r, _, _, _ := impl.RunProgram(p, zeroContext, 100); r != result {
				t.Errorf("a store to %d and a load of %d return %d", stored, loaded, r)
			}
		}
	}
}

// Promise 3: a cell that is stored to on one path only, on both paths: the
// run that passes the store loads, and the other one faults.
func TestCellSetOnOnePathOnly(t *testing.T) {
	for _, kind := range []int{impl.StEq, impl.StLess} {
		skips := []impl.Step{
			{Kind: impl.StCtx, Dst: 1, Src: 5},
			{Kind: kind, Dst: 5, Src: 1, To: 1},
			{Kind: impl.StStore, Dst: 1, Imm: 3},
			{Kind: impl.StLoad, Dst: 0, Imm: 3},
			{Kind: impl.StExit},
		}
		goesTo := []impl.Step{
			{Kind: impl.StCtx, Dst: 1, Src: 5},
			{Kind: kind, Dst: 5, Src: 1, To: 1},
			{Kind: impl.StJump, To: 1},
			{Kind: impl.StStore, Dst: 1, Imm: 3},
			{Kind: impl.StLoad, Dst: 0, Imm: 3},
			{Kind: impl.StExit},
		}
		for n := range 256 {
			ctx := []int{n, 0, 0, 0, 0, 0, 0, 0}
			taken := (n == 0) == (kind == impl.StEq)
			checkPath(t, skips, ctx, !taken, n, 3)
			checkPath(t, goesTo, ctx, taken, n, 4)
			checkRuns(t, skips, ctx)
			checkRuns(t, goesTo, ctx)
		}
	}
}

func checkPath(t *testing.T, p []impl.Step, ctx []int, stored bool, result int, load int) {
	t.Helper()
	if !stored {
		wantFault(t, p, ctx, impl.FtUnset, load)
		return
	}
	wantFault(t, p, ctx, 0, 0)
	if r, _, _, _ := impl.RunProgram(p, ctx, 100); r != result {
		t.Errorf("RunProgram(%v, %v, 100) returns %d, want %d", p, ctx, r, result)
	}
}

// Promise 3: StExit leaves the machine as it was, At included, wherever it is.
func TestExitLeavesTheMachine(t *testing.T) {
	g := lcg(33)
	for size := 1; size <= 20; size++ {
		p := slices.Repeat([]impl.Step{{Kind: impl.StExit}}, size)
		for at := range size {
			x := someFrame(&g, at)
			m, code, ended, ok := impl.DoStep(p, someContext(&g), x.machine())
			if !sameMachine(m, x.machine()) || code != 0 || !ended || !ok {
				t.Errorf("DoStep of an exit at %d on %v returns %v, %d, %t, %t", at, x, m, code, ended, ok)
			}
		}
	}
}

// Promise 3: jumps that are taken and not, over each number of steps, with
// words at both ends; less is the order of the words, not the signed one.
func TestJumpsOfSteps(t *testing.T) {
	pairs := []struct {
		a, b      int
		eq, below bool
	}{
		{0, 0, true, false}, {65535, 65535, true, false}, {0, 1, false, true}, {1, 0, false, false},
		{0, 65535, false, true}, {65535, 0, false, false}, {65534, 65535, false, true}, {65535, 65534, false, false},
		{32767, 32768, false, true}, {32768, 32767, false, false}, {32768, 0, false, false}, {1, 65535, false, true},
		{255, 256, false, true}, {256, 0, false, false}, {257, 1, false, false}, {4660, 4660, true, false},
	}
	for _, c := range pairs {
		for to := 1; to <= 18; to++ {
			for _, kind := range []int{impl.StEq, impl.StLess} {
				x := frame{regs: [6]uint16{9, uint16(c.a), 9, uint16(c.b), 9, 9}}
				m, code, ended, ok := impl.DoStep(hold(impl.Step{Kind: kind, Dst: 1, Src: 3, To: to}), zeroContext, x.machine())
				taken := c.eq
				if kind == impl.StLess {
					taken = c.below
				}
				x.at = 1
				if taken {
					x.at = to + 1
				}
				if !sameMachine(m, x.machine()) || code != 0 || ended || !ok {
					t.Errorf("the jump %d over %d steps with %d and %d leads to %v, %d, %t, %t", kind, to, c.a, c.b, m, code, ended, ok)
				}
			}
		}
	}
}

func TestJumpsOfOneRegister(t *testing.T) {
	for _, n := range edgeWords {
		x := frame{regs: [6]uint16{0, 0, uint16(n)}}
		for kind, at := range map[int]int{impl.StEq: 6, impl.StLess: 1} {
			m, _, _, ok := impl.DoStep(hold(impl.Step{Kind: kind, Dst: 2, Src: 2, To: 5}), zeroContext, x.machine())
			if m.At != at || !ok {
				t.Errorf("the jump %d of one register with %d leads to %d, %t", kind, n, m.At, ok)
			}
		}
	}
}

// Promise 3: fuel 0, just enough, one less, and the ends of its range.
func TestFuel(t *testing.T) {
	p := []impl.Step{
		{Kind: impl.StCtx, Dst: 0, Src: 2, Imm: 1},
		{Kind: impl.StJump, To: 2},
		{Kind: impl.StExit},
		{Kind: impl.StExit},
		{Kind: impl.StStore, Imm: 3},
		{Kind: impl.StLoad, Dst: 1, Imm: 3},
		{Kind: impl.StExit},
	}
	q := slices.Clone(p)
	q[5].Imm = 4
	cases := []struct {
		p                      []impl.Step
		fuel, result, code, at int
		ok                     bool
	}{
		{p, 0, 0, 4, 0, true}, {p, 1, 0, 4, 1, true}, {p, 2, 0, 4, 4, true}, {p, 3, 0, 4, 5, true},
		{p, 4, 0, 4, 6, true}, {p, 5, 21, 0, 0, true}, {p, 6, 21, 0, 0, true}, {p, 99, 21, 0, 0, true}, {p, 100, 21, 0, 0, true},
		{q, 0, 0, 4, 0, true}, {q, 3, 0, 4, 5, true}, {q, 4, 0, 3, 5, true}, {q, 5, 0, 3, 5, true}, {q, 100, 0, 3, 5, true},
		{p, -1, 0, 0, 0, false}, {p, 101, 0, 0, 0, false}, {q, -1, 0, 0, 0, false}, {q, 101, 0, 0, 0, false},
		{p, math.MinInt, 0, 0, 0, false}, {p, math.MaxInt, 0, 0, 0, false}, {p, 1 << 32, 0, 0, 0, false}, {p, 1<<32 + 5, 0, 0, 0, false},
	}
	for _, c := range cases {
		r, f, at, ok := impl.RunProgram(c.p, plainContext, c.fuel)
		if r != c.result || f != c.code || at != c.at || ok != c.ok {
			t.Errorf("RunProgram(%v, ctx, %d) = %d, %d, %d, %t, want %d, %d, %d, %t", c.p, c.fuel, r, f, at, ok, c.result, c.code, c.at, c.ok)
		}
	}
}

// A program of one step needs fuel for it.
func TestFuelOfAnExit(t *testing.T) {
	p := []impl.Step{{Kind: impl.StExit}}
	for fuel, code := range []int{4, 0, 0} {
		if r, f, at, ok := impl.RunProgram(p, zeroContext, fuel); r != 0 || f != code || at != 0 || !ok {
			t.Errorf("RunProgram of an exit with fuel %d = %d, %d, %d, %t", fuel, r, f, at, ok)
		}
	}
	checkRuns(t, p, zeroContext)
}

// A fault at step 0 is told from an end by its code alone.
func TestFaultOfTheFirstStep(t *testing.T) {
	for _, c := range []struct {
		s    impl.Step
		code int
	}{
		{impl.Step{Kind: impl.StLoad, Imm: 0}, 3}, {impl.Step{Kind: impl.StLoad, Imm: 16}, 2}, {impl.Step{Kind: impl.StStore, Imm: 16}, 2},
	} {
		p := []impl.Step{c.s, {Kind: impl.StExit}}
		wantFault(t, p, plainContext, c.code, 0)
		checkRuns(t, p, plainContext)
		if l, _, _ := impl.TraceOf(p, plainContext); !slices.Equal(l, []int{0}) {
			t.Errorf("TraceOf(%v) = %v", p, l)
		}
	}
}

// Register 0 alone is the result, and a fault hides it.
func TestResultIsRegisterZero(t *testing.T) {
	p := []impl.Step{{Kind: impl.StWide, Imm: 65535}, {Kind: impl.StSet, Dst: 1, Imm: 5}, {Kind: impl.StExit}}
	if r, f, at, ok := impl.RunProgram(p, zeroContext, 100); r != 65535 || f != 0 || at != 0 || !ok {
		t.Errorf("RunProgram = %d, %d, %d, %t", r, f, at, ok)
	}
	p[1] = impl.Step{Kind: impl.StLoad, Dst: 1}
	if r, f, at, ok := impl.RunProgram(p, zeroContext, 100); r != 0 || f != 3 || at != 1 || !ok {
		t.Errorf("RunProgram = %d, %d, %d, %t", r, f, at, ok)
	}
}

func TestTraces(t *testing.T) {
	p := []impl.Step{
		{Kind: impl.StCtx, Dst: 1, Src: 5},
		{Kind: impl.StEq, Dst: 1, Src: 5, To: 2},
		{Kind: impl.StCtx, Dst: 2, Src: 1},
		{Kind: impl.StJump, To: 1},
		{Kind: impl.StLoad, Imm: 2},
		{Kind: impl.StExit},
	}
	cases := []struct {
		first int
		trace []int
		code  int
	}{
		{0, []int{0, 1, 4}, 3}, {7, []int{0, 1, 2, 3, 5}, 0}, {8, []int{0, 1, 2}, 1}, {255, []int{0, 1, 2}, 1},
	}
	for _, c := range cases {
		ctx := []int{c.first, 1, 2, 3, 4, 5, 6, 7}
		l, code, ok := impl.TraceOf(p, ctx)
		if !slices.Equal(l, c.trace) || code != c.code || !ok {
			t.Errorf("TraceOf for %v = %v, %d, %t, want %v, %d", ctx, l, code, ok, c.trace, c.code)
		}
		checkRuns(t, p, ctx)
	}
}

// Promise 3: a run is the sequence of what DoStep returns.
func TestRunIsItsSingleSteps(t *testing.T) {
	g := lcg(34)
	codes := map[int]int{}
	for range 3000 {
		p := tameProgram(&g)
		ctx := someContext(&g)
		var begun []int
		m := impl.NewMachine()
		for {
			begun = append(begun, m.At)
			next, code, ended, ok := impl.DoStep(p, ctx, m)
			if !ok || len(begun) > 20 {
				t.Fatalf("DoStep(%v, %v, %v) returns %t after %v", p, ctx, m, ok, begun)
			}
			if code == 0 && !ended {
				m = next
				continue
			}
			result, at := 0, m.At
			if ended {
				result, at = next.Regs[0], 0
			}
			if r, f, a, ok := impl.RunProgram(p, ctx, 100); r != result || f != code || a != at || !ok {
				t.Fatalf("RunProgram(%v, %v, 100) = %d, %d, %d, %t, want %d, %d, %d", p, ctx, r, f, a, ok, result, code, at)
			}
			if l, f, ok := impl.TraceOf(p, ctx); !slices.Equal(l, begun) || f != code || !ok {
				t.Fatalf("TraceOf(%v, %v) = %v, %d, %t, want %v, %d", p, ctx, l, f, ok, begun, code)
			}
			codes[code]++
			break
		}
		checkRuns(t, p, ctx)
	}
	for code := range 4 {
		if codes[code] < 50 {
			t.Errorf("only %d runs ended with the code %d", codes[code], code)
		}
	}
}

// Promise 3: fuel for each step of a program is sufficient, and the longest
// run needs it.
func TestEveryRunEnds(t *testing.T) {
	g := lcg(35)
	for range 3000 {
		p := someProgram(&g)
		ctx := someContext(&g)
		if _, f, at, ok := impl.RunProgram(p, ctx, len(p)); f == impl.FtFuel || !ok {
			t.Fatalf("RunProgram(%v, %v, %d) has no fuel at %d, %t", p, ctx, len(p), at, ok)
		}
		checkRuns(t, p, ctx)
	}
	p := slices.Repeat([]impl.Step{{Kind: impl.StOpImm, Op: impl.OpAdd, Imm: 3}}, 20)
	p[19] = impl.Step{Kind: impl.StExit}
	if r, f, at, ok := impl.RunProgram(p, zeroContext, 20); r != 57 || f != 0 || at != 0 || !ok {
		t.Errorf("RunProgram of 20 steps = %d, %d, %d, %t", r, f, at, ok)
	}
	if r, f, at, ok := impl.RunProgram(p, zeroContext, 19); r != 0 || f != impl.FtFuel || at != 19 || !ok {
		t.Errorf("RunProgram of 20 steps with fuel 19 = %d, %d, %d, %t", r, f, at, ok)
	}
	checkRuns(t, p, zeroContext)
}

// wantZeroStep checks that DoStep returns its zero result.
func wantZeroStep(t *testing.T, name string, p []impl.Step, ctx []int, m impl.Machine) {
	t.Helper()
	if x, code, ended, ok := impl.DoStep(p, ctx, m); !sameMachine(x, impl.Machine{}) || code != 0 || ended || ok {
		t.Errorf("DoStep with %s returns %v, %d, %t, %t", name, x, code, ended, ok)
	}
}

// wantZeroRuns checks that the runs return their zero results.
func wantZeroRuns(t *testing.T, name string, p []impl.Step, ctx []int) {
	t.Helper()
	for _, fuel := range append([]int{0, 1, 4, 100, 101}, oddNumbers...) {
		if r, f, at, ok := impl.RunProgram(p, ctx, fuel); r != 0 || f != 0 || at != 0 || ok {
			t.Errorf("RunProgram with %s and fuel %d returns %d, %d, %d, %t", name, fuel, r, f, at, ok)
		}
	}
	if l, f, ok := impl.TraceOf(p, ctx); len(l) != 0 || f != 0 || ok {
		t.Errorf("TraceOf with %s returns %v, %d, %t", name, l, f, ok)
	}
	if a, ok := impl.FaultFree(p, ctx); a || ok {
		t.Errorf("FaultFree with %s returns %t, %t", name, a, ok)
	}
}

// Promise 19: machines that are not valid.
func TestStepsOfBadMachines(t *testing.T) {
	g := lcg(36)
	p := slices.Repeat([]impl.Step{{Kind: impl.StExit}}, 20)
	for name, m := range badMachines(someFrame(&g, 3).machine()) {
		for _, s := range []impl.Step{{Kind: impl.StExit}, {Kind: impl.StSet, Imm: 1}, {Kind: impl.StLoad, Imm: 16}, {Kind: impl.StOp, Op: 1, Dst: 5, Src: 5}} {
			p[3] = s
			before := cloneMachine(m)
			wantZeroStep(t, name, p, zeroContext, m)
			if !sameMachine(m, before) {
				t.Errorf("DoStep changed a machine with %s", name)
			}
		}
	}
}

// Promise 19: a valid machine whose At is no index of a step of the program.
func TestStepsBehindTheProgram(t *testing.T) {
	g := lcg(37)
	for size := 1; size <= 20; size++ {
		p := slices.Repeat([]impl.Step{{Kind: impl.StExit}}, 20)[:size]
		for at := range 20 {
			m := someFrame(&g, at).machine()
			if at >= size {
				wantZeroStep(t, fmt.Sprint(size, " steps and At ", at), p, zeroContext, m)
			} else if _, _, ended, ok := impl.DoStep(p, zeroContext, m); !ended || !ok {
				t.Errorf("DoStep with %d steps and At %d returns %t, %t", size, at, ended, ok)
			}
		}
	}
}

// Promise 19: contexts that are not valid, also where no step reads them and
// where there is no fuel for a step.
func TestBadContexts(t *testing.T) {
	bad := map[string][]int{"nil": nil, "an empty context": {}}
	for _, n := range []int{1, 7, 9, 16, 100} {
		bad[fmt.Sprint("a context of ", n)] = make([]int, n)
	}
	for i := range 8 {
		for _, n := range []int{math.MinInt, -65536, -256, -1, 256, 257, 65535, 65536, 1 << 32, math.MaxInt} {
			ctx := slices.Clone(plainContext)
			ctx[i] = n
			bad[fmt.Sprint("a context with ", n, " at ", i)] = ctx
		}
	}
	programs := [][]impl.Step{
		{{Kind: impl.StExit}},
		{{Kind: impl.StCtx, Src: 2, Imm: 1}, {Kind: impl.StExit}},
		{{Kind: impl.StLoad, Imm: 16}, {Kind: impl.StExit}},
	}
	for name, ctx := range bad {
		for _, p := range programs {
			before := slices.Clone(ctx)
			wantZeroStep(t, name, p, ctx, impl.NewMachine())
			wantZeroRuns(t, name, p, ctx)
			if !slices.Equal(ctx, before) {
				t.Errorf("%s became %v", name, ctx)
			}
		}
	}
}

// badPrograms are not valid for one reason each; in some of them it is in a step
// that no run begins.
func badPrograms() map[string][]impl.Step {
	exit := impl.Step{Kind: impl.StExit}
	return map[string][]impl.Step{
		"nil":                  nil,
		"no steps":             {},
		"21 steps":             slices.Repeat([]impl.Step{exit}, 21),
		"no exit at the end":   {exit, {Kind: impl.StSet}},
		"a jump to the end":    {{Kind: impl.StJump, To: 1}, exit},
		"a jump backwards":     {exit, {Kind: impl.StJump, To: -1}, exit},
		"a jump over nothing":  {{Kind: impl.StJump}, exit},
		"a far branch":         {{Kind: impl.StLess, To: 2}, exit, exit},
		"a bad step behind":    {exit, {Kind: impl.StSet, Imm: 256}, exit},
		"a kind 0":             {{}, exit},
		"a kind 12":            {{Kind: 12}, exit},
		"an operation 11":      {{Kind: impl.StOp, Op: 11}, exit},
		"an operation 0":       {{Kind: impl.StOpImm}, exit},
		"a register 6":         {{Kind: impl.StSet, Dst: 6}, exit},
		"a register -1":        {{Kind: impl.StStore, Dst: -1}, exit},
		"a source 6":           {{Kind: impl.StOp, Op: 1, Src: 6}, exit},
		"an index 8":           {{Kind: impl.StCtx, Imm: 8}, exit},
		"an index -1":          {{Kind: impl.StCtx, Imm: -1}, exit},
		"a cell -1":            {{Kind: impl.StLoad, Imm: -1}, exit},
		"a cell 256":           {{Kind: impl.StStore, Imm: 256}, exit},
		"a small wide":         {{Kind: impl.StWide, Imm: 255}, exit},
		"a field that is left": {{Kind: impl.StSet, To: 1}, exit, exit},
		"an exit with a field": {{Kind: impl.StExit, Imm: 1}},
	}
}

// Promise 19: programs that are not valid.
func TestRunsOfBadPrograms(t *testing.T) {
	for name, p := range badPrograms() {
		before := slices.Clone(p)
		for at := range 20 {
			m := impl.NewMachine()
			m.At = at
			wantZeroStep(t, name, p, zeroContext, m)
		}
		wantZeroRuns(t, name, p, zeroContext)
		if !slices.Equal(p, before) {
			t.Errorf("%s became %v", name, p)
		}
	}
}

// Promise 19: steps with odd fields are executed exactly if they are valid.
func TestRunsOfOddSteps(t *testing.T) {
	g := lcg(38)
	for _, row := range kindRows {
		for _, s := range endSteps(row) {
			for i := range 5 {
				for _, n := range oddNumbers {
					f := fieldsOfStep(s)
					f[i] = n
					p := hold(stepOfFields(s.Kind, f))
					if wantGoodProgram(p) {
						checkStep(t, p, plainContext, someFrame(&g, 0))
						continue
					}
					wantZeroStep(t, fmt.Sprint(p[0]), p, plainContext, impl.NewMachine())
					if l, code, ok := impl.TraceOf(p, plainContext); len(l) != 0 || code != 0 || ok {
						t.Fatalf("TraceOf(%v) = %v, %d, %t", p, l, code, ok)
					}
				}
			}
		}
	}
}

// roomy returns a machine whose lists, with room behind them, have the given
// numbers in that room.
func roomy(m impl.Machine) impl.Machine {
	regs := append(slices.Clone(m.Regs), -5, 70000, 1)
	cells := append(slices.Clone(m.Cells), -6, 70001, 1)
	set := append(slices.Clone(m.Set), true, false, true)
	return impl.Machine{At: m.At, Regs: regs[:6], Cells: cells[:16], Set: set[:16]}
}

// Promise 19: no argument is changed, up to the capacity of its memory, and
// what is behind its length does not count.
func TestArgumentsOfStepsAreNotChanged(t *testing.T) {
	g := lcg(39)
	for range 1500 {
		steps := append(tameProgram(&g), impl.Step{Kind: 99}, impl.Step{Kind: impl.StExit})
		p := steps[:len(steps)-2]
		numbers := append(someContext(&g), -1, 300)
		ctx := numbers[:8]
		x := someFrame(&g, g.below(len(p)))
		m := roomy(x.machine())
		stepsBefore, numbersBefore := slices.Clone(steps), slices.Clone(numbers)
		before := impl.Machine{At: m.At, Regs: slices.Clone(m.Regs[:9]), Cells: slices.Clone(m.Cells[:19]), Set: slices.Clone(m.Set[:19])}
		after, code, _ := wantStep(p[x.at], ctx, x)
		next, gotCode, _, ok := impl.DoStep(p, ctx, m)
		if gotCode != code || !ok || code == 0 && !sameMachine(next, after.machine()) {
			t.Fatalf("DoStep with room behind the lists returns %v, %d, %t, want %v, %d", next, gotCode, ok, after, code)
		}
		impl.GoodMachine(m)
		checkRuns(t, p, ctx)
		spoil(next)
		now := impl.Machine{At: m.At, Regs: m.Regs[:9], Cells: m.Cells[:19], Set: m.Set[:19]}
		if !sameMachine(now, before) {
			t.Fatalf("the machine %v became %v", before, now)
		}
		if !slices.Equal(steps, stepsBefore) || !slices.Equal(numbers, numbersBefore) {
			t.Fatalf("%v and %v became %v and %v", stepsBefore, numbersBefore, steps, numbers)
		}
	}
}

// Promise 19: the lists of a machine that DoStep returns share no memory with
// each other, with the argument or with another result.
func TestMachinesAreNewMemory(t *testing.T) {
	g := lcg(40)
	for range 1500 {
		p := tameProgram(&g)
		ctx := someContext(&g)
		m := someFrame(&g, g.below(len(p))).machine()
		before := cloneMachine(m)
		first, code, _, ok := impl.DoStep(p, ctx, m)
		second, _, _, _ := impl.DoStep(p, ctx, m)
		if !ok || code != 0 {
			continue
		}
		want := cloneMachine(first)
		for part := range 3 {
			x := cloneMachine(want)
			got, _, _, _ := impl.DoStep(p, ctx, m)
			spoilPart(got, part)
			spoilPart(x, part)
			if !sameMachine(got, x) {
				t.Fatalf("two lists of %v share memory", want)
			}
		}
		spoil(first)
		if !sameMachine(m, before) || !sameMachine(second, want) {
			t.Fatalf("a result shares memory: %v, %v became %v, %v", before, want, m, second)
		}
		kept := cloneMachine(second)
		spoil(m)
		if !sameMachine(second, kept) {
			t.Fatalf("%v became %v with the argument", kept, second)
		}
	}
}

// spoilPart overwrites one list of a machine up to its capacity.
func spoilPart(m impl.Machine, part int) {
	switch part {
	case 0:
		m.Cells, m.Set = nil, nil
	case 1:
		m.Regs, m.Set = nil, nil
	case 2:
		m.Regs, m.Cells = nil, nil
	}
	spoil(m)
}

func TestNewMachineListsAreApart(t *testing.T) {
	for part := range 3 {
		m := impl.NewMachine()
		want := cloneMachine(m)
		spoilPart(m, part)
		spoilPart(want, part)
		if !sameMachine(m, want) {
			t.Errorf("two lists of NewMachine() share memory: %v", m)
		}
	}
}

// Promise 19: a trace is new memory.
func TestTracesAreNewMemory(t *testing.T) {
	g := lcg(41)
	for range 300 {
		p := tameProgram(&g)
		ctx := someContext(&g)
		before, numbers := slices.Clone(p), slices.Clone(ctx)
		checkNew(t, func() []int { l, _, _ := impl.TraceOf(p, ctx); return l }, -7)
		if !slices.Equal(p, before) || !slices.Equal(ctx, numbers) {
			t.Fatalf("a trace of %v and %v shares their memory", before, numbers)
		}
	}
}
