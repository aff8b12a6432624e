package tests

import (
	"fmt"
	"maps"
	"math"
	"slices"
	"testing"

	"loop.example/g00605/impl"
)

// gateRows are Kind, A and B of each gate.
type gateRows [][3]int

func (r gateRows) gates() []impl.Gate {
	var g []impl.Gate
	for _, x := range r {
		g = append(g, impl.Gate{Kind: x[0], A: x[1], B: x[2]})
	}
	return g
}

// someInputs are that many inputs and no other gate.
func someInputs(count int) []impl.Gate {
	return slices.Repeat([]impl.Gate{{Kind: impl.GtVar}}, count)
}

// sidesOf returns how many of A and B a gate of that kind uses, or -1 if there
// is no such kind.
func sidesOf(kind int) int {
	switch kind {
	case impl.GtVar:
		return 0
	case impl.GtNot:
		return 1
	case impl.GtAnd, impl.GtOr, impl.GtXor:
		return 2
	}
	return -1
}

func wantGoodGates(g []impl.Gate) bool {
	for k, x := range g {
		sides := sidesOf(x.Kind)
		if sides < 0 {
			return false
		}
		for i, at := range []int{x.A, x.B} {
			if i < sides && (at < 0 || at >= k) || i >= sides && at != 0 {
				return false
			}
		}
	}
	return len(g) >= 1 && len(g) <= 12
}

func wantInputs(g []impl.Gate) []int {
	var at []int
	for k := range g {
		if g[k].Kind == impl.GtVar {
			at = append(at, k)
		}
	}
	return at
}

// wantValue goes from a gate back to the inputs.
func wantValue(g []impl.Gate, k int, ins []bool) bool {
	a := func() bool { return wantValue(g, g[k].A, ins) }
	b := func() bool { return wantValue(g, g[k].B, ins) }
	switch g[k].Kind {
	case impl.GtVar:
		return ins[len(wantInputs(g[:k]))]
	case impl.GtNot:
		return !a()
	case impl.GtAnd:
		return a() && b()
	case impl.GtOr:
		return a() || b()
	}
	return a() != b()
}

// wantGates works out the values gate by gate, so that each is worked out once.
func wantGates(g []impl.Gate, ins []bool) []bool {
	var values []bool
	left := ins
	for _, x := range g {
		var value bool
		switch x.Kind {
		case impl.GtVar:
			value, left = left[0], left[1:]
		case impl.GtNot:
			value = !values[x.A]
		case impl.GtAnd:
			value = values[x.A] && values[x.B]
		case impl.GtOr:
			value = values[x.A] || values[x.B]
		case impl.GtXor:
			value = (values[x.A] || values[x.B]) && !(values[x.A] && values[x.B])
		}
		values = append(values, value)
	}
	return values
}

func wantOutput(g []impl.Gate, ins []bool) bool {
	return wantGates(g, ins)[len(g)-1]
}

// inputsAt has the bits of n as its values, the lowest one first.
func inputsAt(count int, n int) []bool {
	ins := make([]bool, count)
	for k := range ins {
		ins[k] = n/(1<<k)%2 == 1
	}
	return ins
}

// outputsOf has the output for each of the input values in ascending order.
func outputsOf(g []impl.Gate) []bool {
	count := len(wantInputs(g))
	outputs := make([]bool, 1<<count)
	for n := range outputs {
		outputs[n] = wantOutput(g, inputsAt(count, n))
	}
	return outputs
}

// signs are those of k, a and b in a clause, or 0 for a variable that is not in
// it.
type signs [3]int

// gateTable is the chapter's table.
func gateTable(kind int) []signs {
	switch kind {
	case impl.GtNot:
		return []signs{{1, 1, 0}, {-1, -1, 0}}
	case impl.GtAnd:
		return []signs{{-1, 1, 0}, {-1, 0, 1}, {1, -1, -1}}
	case impl.GtOr:
		return []signs{{1, -1, 0}, {1, 0, -1}, {-1, 1, 1}}
	case impl.GtXor:
		return []signs{{-1, 1, 1}, {-1, -1, -1}, {1, -1, 1}, {1, 1, -1}}
	}
	return nil
}

func wantGateClauses(g []impl.Gate, k int) [][]int {
	var l [][]int
	for _, row := range gateTable(g[k].Kind) {
		var c []int
		for i, v := range []int{k + 1, g[k].A + 1, g[k].B + 1} {
			if row[i] != 0 {
				c = append(c, row[i]*v)
			}
		}
		if clean, ok := wantClean(c); ok {
			l = append(l, clean)
		}
	}
	return l
}

func wantClausesOf(g []impl.Gate) [][]int {
	var l [][]int
	for k := range g {
		l = append(l, wantGateClauses(g, k)...)
	}
	return append(l, []int{len(g)})
}

// checkGates compares the values and the inputs, at all input values.
func checkGates(t *testing.T, g []impl.Gate) {
	t.Helper()
	if !impl.GoodGates(g) {
		t.Fatalf("GoodGates(%v) = false", g)
	}
	inputs := wantInputs(g)
	if got, ok := impl.InputsOf(g); !slices.Equal(got, inputs) || !ok {
		t.Fatalf("InputsOf(%v) = %v, %t, want %v, true", g, got, ok, inputs)
	}
	eachModel(len(inputs), func(ins []bool) {
		want := wantGates(g, ins)
		if got, ok := impl.EvalGates(g, ins); !slices.Equal(got, want) || !ok {
			t.Fatalf("EvalGates(%v, %v) = %v, %t, want %v, true", g, ins, got, ok, want)
		}
		if back, ok := impl.InputsBy(g, want); !slices.Equal(back, ins) || !ok {
			t.Fatalf("InputsBy(%v, %v) = %v, %t, want %v, true", g, want, back, ok, ins)
		}
	})
}

// checkGateClauses compares the clauses with the table.
func checkGateClauses(t *testing.T, g []impl.Gate) {
	t.Helper()
	var all [][]int
	for k := range g {
		want := wantGateClauses(g, k)
		got, ok := impl.GateClauses(g, k)
		if !sameClauses(got, want) || !ok {
			t.Fatalf("GateClauses(%v, %d) = %v, %t, want %v, true", g, k, got, ok, want)
		}
		for _, c := range got {
			if clean, ok := impl.CleanClause(c); !slices.Equal(clean, c) || !ok {
				t.Fatalf("GateClauses(%v, %d) = %v, where %v is not clean", g, k, got, c)
			}
		}
		all = append(all, got...)
	}
	all = append(all, []int{len(g)})
	got, ok := impl.ClausesOf(g)
	if !sameClauses(got, all) || !sameClauses(got, wantClausesOf(g)) || !ok {
		t.Fatalf("ClausesOf(%v) = %v, %t, want %v, true", g, got, ok, wantClausesOf(g))
	}
	if !impl.GoodClauses(len(g), got) {
		t.Fatalf("ClausesOf(%v) = %v, which are not valid", g, got)
	}
}

// checkCanBe is for a circuit whose outputs are known.
func checkCanBe(t *testing.T, g []impl.Gate, outputs []bool) {
	t.Helper()
	var want []bool
	at := slices.Index(outputs, true)
	if at >= 0 {
		want = inputsAt(len(wantInputs(g)), at)
	}
	if can, ins, ok := impl.CanBe(g); can != (at >= 0) || !slices.Equal(ins, want) || !ok {
		t.Fatalf("CanBe(%v) = %t, %v, %t, want %t, %v, true", g, can, ins, ok, at >= 0, want)
	}
}

// checkSameOutputs compares AlwaysSame both ways round. It returns what it is.
func checkSameOutputs(t *testing.T, a, b []impl.Gate) bool {
	t.Helper()
	want := slices.Equal(outputsOf(a), outputsOf(b))
	for _, x := range [][2][]impl.Gate{{a, b}, {b, a}} {
		if same, ok := impl.AlwaysSame(x[0], x[1]); same != want || !ok {
			t.Fatalf("AlwaysSame(%v, %v) = %t, %t, want %t, true", x[0], x[1], same, ok, want)
		}
	}
	return want
}

// checkModelsOfGates is promise 8: the models of the clauses are one to one the
// input values for which the output is true.
func checkModelsOfGates(t *testing.T, g []impl.Gate) {
	t.Helper()
	l, ok := impl.ClausesOf(g)
	if !ok {
		t.Fatalf("ClausesOf(%v) = %v, false", g, l)
	}
	seen := map[string][]bool{}
	count := 0
	eachModel(len(g), func(model []bool) {
		ins, ok := impl.InputsBy(g, model)
		values, ok2 := impl.EvalGates(g, ins)
		if !ok || !ok2 {
			t.Fatalf("InputsBy(%v, %v) = %v, %t, of which EvalGates returns %v, %t", g, model, ins, ok, values, ok2)
		}
		want := slices.Equal(values, model) && model[len(model)-1]
		if holds, ok := impl.HoldsAll(len(g), l, model); holds != want || !ok {
			t.Fatalf("the clauses %v of %v hold in %v: %t, %t, want %t, true", l, g, model, holds, ok, want)
		}
		if !want {
			return
		}
		count++
		if other, found := seen[fmt.Sprint(ins)]; found {
			t.Fatalf("the models %v and %v of %v have the inputs %v", other, model, g, ins)
		}
		seen[fmt.Sprint(ins)] = slices.Clone(model)
	})
	trues := 0
	for _, output := range outputsOf(g) {
		if output {
			trues++
		}
	}
	if models, ok := impl.CountModels(len(g), l); count != trues || models != trues || !ok {
		t.Fatalf("the clauses of %v have %d models, CountModels returns %d, %t, want %d", g, count, models, ok, trues)
	}
}

// checkCircuit compares every function for a valid circuit.
func checkCircuit(t *testing.T, g []impl.Gate) {
	t.Helper()
	checkGates(t, g)
	checkGateClauses(t, g)
	checkCanBe(t, g, outputsOf(g))
	checkModelsOfGates(t, g)
	if !checkSameOutputs(t, g, slices.Clone(g)) {
		t.Fatalf("%v is not the same as itself", g)
	}
}

// eachGate visits the valid gates with that many others ahead of them.
func eachGate(ahead int, visit func(x impl.Gate)) {
	visit(impl.Gate{Kind: impl.GtVar})
	for a := range ahead {
		visit(impl.Gate{Kind: impl.GtNot, A: a})
		for b := range ahead {
			for kind := impl.GtAnd; kind <= impl.GtXor; kind++ {
				visit(impl.Gate{Kind: kind, A: a, B: b})
			}
		}
	}
}

// eachCircuit visits all valid circuits of that many gates.
func eachCircuit(size int, visit func(g []impl.Gate)) {
	g := make([]impl.Gate, size)
	var fill func(k int)
	fill = func(k int) {
		if k == size {
			visit(slices.Clone(g))
			return
		}
		eachGate(k, func(x impl.Gate) {
			g[k] = x
			fill(k + 1)
		})
	}
	fill(0)
}

// someCircuit has many or few inputs, among the other gates.
func someCircuit(r *lcg, size int) []impl.Gate {
	g := someInputs(1)
	oneIn := 1 + r.below(6)
	for k := 1; k < size; k++ {
		x := impl.Gate{Kind: impl.GtVar}
		if r.below(oneIn) > 0 {
			x = impl.Gate{Kind: impl.GtNot + r.below(4), A: r.below(k), B: r.below(k)}
			if r.below(8) == 0 {
				x.B = x.A
			}
		}
		if x.Kind == impl.GtNot {
			x.B = 0
		}
		g = append(g, x)
	}
	return g
}

// someOfInputs has exactly that many inputs, the first of which is the first
// gate.
func someOfInputs(r *lcg, size int, inputs int) []impl.Gate {
	for {
		if g := someCircuit(r, size); len(wantInputs(g)) == inputs {
			return g
		}
	}
}

func TestGateConstants(t *testing.T) {
	got := []int{impl.MaxGates, impl.GtVar, impl.GtNot, impl.GtAnd, impl.GtOr, impl.GtXor}
	if !slices.Equal(got, []int{12, 1, 2, 3, 4, 5}) {
		t.Errorf("the constants of the chapter are %v", got)
	}
}

// Promise 8, all small circuits. Those of 4 gates have gates of each kind on
// others of each kind.
func TestEverySmallCircuit(t *testing.T) {
	for size, want := range []int{0, 1, 5, 75, 2325} {
		if size == 0 {
			continue
		}
		count := 0
		eachCircuit(size, func(g []impl.Gate) {
			checkCircuit(t, g)
			count++
		})
		if count != want {
			t.Errorf("%d circuits of %d gates, want %d", count, size, want)
		}
	}
}

// Promise 8, larger circuits.
func TestManyCircuits(t *testing.T) {
	r := lcg(100)
	for i := range 360 {
		checkCircuit(t, someCircuit(&r, 4+i%9))
	}
	for range 4000 {
		checkCircuit(t, someCircuit(&r, 4+r.below(3)))
	}
}

// Circuits of 12 gates, with each number of inputs.
func TestLargestCircuits(t *testing.T) {
	r := lcg(101)
	for inputs := 1; inputs <= 12; inputs++ {
		for range 6 {
			checkCircuit(t, someOfInputs(&r, 12, inputs))
		}
	}
}

func wantEval(t *testing.T, g []impl.Gate, ins, want []bool) {
	t.Helper()
	if got, ok := impl.EvalGates(g, ins); !slices.Equal(got, want) || !ok {
		t.Errorf("EvalGates(%v, %v) = %v, %t, want %v, true", g, ins, got, ok, want)
	}
}

func TestEvalGatesByHand(t *testing.T) {
	for _, a := range []bool{false, true} {
		wantEval(t, someInputs(1), []bool{a}, []bool{a})
		wantEval(t, gateRows{{impl.GtVar}, {impl.GtNot, 0, 0}}.gates(), []bool{a}, []bool{a, !a})
		wantEval(t, gateRows{{impl.GtVar}, {impl.GtAnd, 0, 0}}.gates(), []bool{a}, []bool{a, a})
		wantEval(t, gateRows{{impl.GtVar}, {impl.GtOr, 0, 0}}.gates(), []bool{a}, []bool{a, a})
		wantEval(t, gateRows{{impl.GtVar}, {impl.GtXor, 0, 0}}.gates(), []bool{a}, []bool{a, false})
	}
	for kind, values := range map[int][4]bool{
		impl.GtAnd: {false, false, false, true},
		impl.GtOr:  {false, true, true, true},
		impl.GtXor: {false, true, true, false},
	} {
		for n, value := range values {
			a, b := n >= 2, n%2 == 1
			wantEval(t, gateRows{{impl.GtVar}, {impl.GtVar}, {kind, 0, 1}}.gates(), []bool{a, b}, []bool{a, b, value})
			wantEval(t, gateRows{{impl.GtVar}, {impl.GtVar}, {kind, 1, 0}}.gates(), []bool{a, b}, []bool{a, b, value})
		}
	}
	wantEval(t, mixedGates(), []bool{true, false, true, false}, []bool{true, false, false, true, true, false, true, true})
	wantEval(t, mixedGates(), []bool{false, true, false, true}, []bool{false, true, true, false, true, true, false, false})
}

// Each gate's value is also worked out from the inputs alone.
func TestEvalGatesFromTheInputs(t *testing.T) {
	r := lcg(102)
	for range 400 {
		g := someCircuit(&r, 1+r.below(9))
		eachModel(len(wantInputs(g)), func(ins []bool) {
			got, ok := impl.EvalGates(g, ins)
			if len(got) != len(g) || !ok {
				t.Fatalf("EvalGates(%v, %v) = %v, %t", g, ins, got, ok)
			}
			for k, value := range got {
				if want := wantValue(g, k, ins); value != want {
					t.Fatalf("EvalGates(%v, %v) = %v, want gate %d %t", g, ins, got, k, want)
				}
			}
		})
	}
}

// mixedGates has inputs behind other gates, and an input that no gate uses.
func mixedGates() []impl.Gate {
	return gateRows{
		{impl.GtVar}, {impl.GtNot, 0, 0}, {impl.GtVar}, {impl.GtVar},
		{impl.GtOr, 1, 3}, {impl.GtVar}, {impl.GtXor, 5, 4}, {impl.GtAnd, 6, 0},
	}.gates()
}

func TestInputsByHand(t *testing.T) {
	for _, x := range []struct {
		name string
		g    []impl.Gate
		want []int
	}{
		{"one input alone", someInputs(1), []int{0}},
		{"inputs alone", someInputs(3), []int{0, 1, 2}},
		{"12 inputs", someInputs(12), []int{0, 1, 2, 3, 4, 5, 6, 7, 8, 9, 10, 11}},
		{"one input, ahead of others", gateRows{{impl.GtVar}, {impl.GtNot, 0, 0}, {impl.GtAnd, 0, 1}}.gates(), []int{0}},
		{"the last gate is an input", gateRows{{impl.GtVar}, {impl.GtNot, 0, 0}, {impl.GtVar}}.gates(), []int{0, 2}},
		{"an input that no gate uses, first", gateRows{{impl.GtVar}, {impl.GtVar}, {impl.GtNot, 1, 0}}.gates(), []int{0, 1}},
		{"an input that no gate uses, in between", gateRows{{impl.GtVar}, {impl.GtVar}, {impl.GtNot, 0, 0}}.gates(), []int{0, 1}},
		{"inputs among others", mixedGates(), []int{0, 2, 3, 5}},
	} {
		if got, ok := impl.InputsOf(x.g); !slices.Equal(got, x.want) || !ok {
			t.Errorf("%s: InputsOf(%v) = %v, %t, want %v, true", x.name, x.g, got, ok, x.want)
		}
		checkGates(t, x.g)
	}
}

// InputsBy looks at the inputs alone, whatever the other gates have.
func TestInputsByByHand(t *testing.T) {
	g := mixedGates()
	eachModel(len(g), func(model []bool) {
		want := []bool{model[0], model[2], model[3], model[5]}
		if got, ok := impl.InputsBy(g, model); !slices.Equal(got, want) || !ok {
			t.Fatalf("InputsBy(%v, %v) = %v, %t, want %v, true", g, model, got, ok, want)
		}
	})
	eachModel(12, func(model []bool) {
		if got, ok := impl.InputsBy(someInputs(12), model); !slices.Equal(got, model) || !ok {
			t.Fatalf("InputsBy of 12 inputs, %v = %v, %t", model, got, ok)
		}
	})
}

func TestGateClausesByHand(t *testing.T) {
	for _, x := range []struct {
		kind, a, b int
		want       [][]int
	}{
		{impl.GtVar, 0, 0, nil},
		{impl.GtNot, 0, 0, [][]int{{5, 1}, {-5, -1}}},
		{impl.GtNot, 3, 0, [][]int{{5, 4}, {-5, -4}}},
		{impl.GtAnd, 0, 1, [][]int{{-5, 1}, {-5, 2}, {5, -1, -2}}},
		{impl.GtAnd, 3, 2, [][]int{{-5, 4}, {-5, 3}, {5, -4, -3}}},
		{impl.GtAnd, 0, 0, [][]int{{-5, 1}, {-5, 1}, {5, -1}}},
		{impl.GtAnd, 2, 2, [][]int{{-5, 3}, {-5, 3}, {5, -3}}},
		{impl.GtOr, 0, 1, [][]int{{5, -1}, {5, -2}, {-5, 1, 2}}},
		{impl.GtOr, 3, 2, [][]int{{5, -4}, {5, -3}, {-5, 4, 3}}},
		{impl.GtOr, 0, 0, [][]int{{5, -1}, {5, -1}, {-5, 1}}},
		{impl.GtOr, 2, 2, [][]int{{5, -3}, {5, -3}, {-5, 3}}},
		{impl.GtXor, 0, 1, [][]int{{-5, 1, 2}, {-5, -1, -2}, {5, -1, 2}, {5, 1, -2}}},
		{impl.GtXor, 3, 2, [][]int{{-5, 4, 3}, {-5, -4, -3}, {5, -4, 3}, {5, 4, -3}}},
		{impl.GtXor, 0, 0, [][]int{{-5, 1}, {-5, -1}}},
		{impl.GtXor, 2, 2, [][]int{{-5, 3}, {-5, -3}}},
	} {
		g := append(someInputs(4), impl.Gate{Kind: x.kind, A: x.a, B: x.b})
		if got, ok := impl.GateClauses(g, 4); !sameClauses(got, x.want) || !ok {
			t.Errorf("GateClauses(%v, 4) = %v, %t, want %v, true", g, got, ok, x.want)
		}
		if got, ok := impl.ClausesOf(g); !sameClauses(got, append(x.want, []int{5})) || !ok {
			t.Errorf("ClausesOf(%v) = %v, %t, want %v and 5, true", g, got, ok, x.want)
		}
		checkCircuit(t, g)
	}
}

// Every gate that a valid circuit can have, in every place.
func TestClausesOfEveryGate(t *testing.T) {
	r := lcg(103)
	for k := range 12 {
		eachGate(k, func(x impl.Gate) {
			g := append(someCircuit(&r, k+1)[:k], x)
			g = append(g, someCircuit(&r, 12)[k+1:]...)
			checkGateClauses(t, g)
		})
	}
}

func TestClausesOfByHand(t *testing.T) {
	for _, x := range []struct {
		g    []impl.Gate
		want [][]int
	}{
		{someInputs(1), [][]int{{1}}},
		{someInputs(12), [][]int{{12}}},
		{gateRows{{impl.GtVar}, {impl.GtNot, 0, 0}}.gates(), [][]int{{2, 1}, {-2, -1}, {2}}},
		{gateRows{{impl.GtVar}, {impl.GtNot, 0, 0}, {impl.GtVar}}.gates(), [][]int{{2, 1}, {-2, -1}, {3}}},
		{gateRows{{impl.GtVar}, {impl.GtXor, 0, 0}, {impl.GtVar}, {impl.GtOr, 2, 1}}.gates(),
			[][]int{{-2, 1}, {-2, -1}, {4, -3}, {4, -2}, {-4, 3, 2}, {4}}},
	} {
		if got, ok := impl.ClausesOf(x.g); !sameClauses(got, x.want) || !ok {
			t.Errorf("ClausesOf(%v) = %v, %t, want %v, true", x.g, got, ok, x.want)
		}
		checkCircuit(t, x.g)
	}
}

// No circuit has more clauses than 44: the second gate has the first one on both
// sides, and those behind it are exclusive disjunctions of different gates.
func TestMostClauses(t *testing.T) {
	for kind, want := range map[int]int{impl.GtAnd: 44, impl.GtOr: 44, impl.GtXor: 43} {
		g := gateRows{{impl.GtVar}, {kind, 0, 0}}.gates()
		for k := 2; k < 12; k++ {
			g = append(g, impl.Gate{Kind: impl.GtXor, A: k - 1, B: k - 2})
		}
		if l, ok := impl.ClausesOf(g); len(l) != want || !ok {
			t.Errorf("ClausesOf(%v) = %d clauses, %t, want %d", g, len(l), ok, want)
		}
		checkCircuit(t, g)
	}
}

// trueAt is a circuit of 1 to 4 inputs whose output is true for the input
// values with the bits of n alone.
func trueAt(inputs int, n int) []impl.Gate {
	g := someInputs(inputs)
	last := -1
	for k := range inputs {
		side := k
		if n>>k&1 == 0 {
			g = append(g, impl.Gate{Kind: impl.GtNot, A: k})
			side = len(g) - 1
		}
		if last >= 0 {
			g = append(g, impl.Gate{Kind: impl.GtAnd, A: last, B: side})
			side = len(g) - 1
		}
		last = side
	}
	if last != len(g)-1 {
		g = append(g, impl.Gate{Kind: impl.GtOr, A: last, B: last})
	}
	return g
}

// constantGates is a circuit whose output has that value for all input values.
func constantGates(inputs int, value bool) []impl.Gate {
	g := append(someInputs(inputs), impl.Gate{Kind: impl.GtNot, A: inputs - 1})
	kind := impl.GtAnd
	if value {
		kind = impl.GtOr
	}
	return append(g, impl.Gate{Kind: kind, A: inputs, B: inputs - 1})
}

// negatedGates has the other output for all input values.
func negatedGates(g []impl.Gate) []impl.Gate {
	return append(slices.Clone(g), impl.Gate{Kind: impl.GtNot, A: len(g) - 1})
}

// An output that is true for one of the input values alone, each of them, and
// one that is true for all but one.
func TestTrueForOneInputValue(t *testing.T) {
	for inputs := 1; inputs <= 4; inputs++ {
		for n := range 1 << inputs {
			g := trueAt(inputs, n)
			checkCircuit(t, g)
			if can, ins, ok := impl.CanBe(g); !can || wantIndex(ins) != n || len(ins) != inputs || !ok {
				t.Errorf("CanBe(%v) = %t, %v, %t, want the values of %d", g, can, ins, ok, n)
			}
			l, _ := impl.ClausesOf(g)
			if models, ok := impl.CountModels(len(g), l); models != 1 || !ok {
				t.Errorf("the clauses of %v have %d models, %t", g, models, ok)
			}
			not := negatedGates(g)
			checkCircuit(t, not)
			first := 0
			if n == 0 {
				first = 1
			}
			if can, ins, ok := impl.CanBe(not); !can || wantIndex(ins) != first || !ok {
				t.Errorf("CanBe(%v) = %t, %v, %t, want the values of %d", not, can, ins, ok, first)
			}
		}
	}
}

func TestCanBeByHand(t *testing.T) {
	for _, x := range []struct {
		name string
		g    []impl.Gate
		can  bool
		ins  []bool
	}{
		{"a gate and its negation", gateRows{{impl.GtVar}, {impl.GtNot, 0, 0}, {impl.GtAnd, 0, 1}}.gates(), false, nil},
		{"a gate or its negation", gateRows{{impl.GtVar}, {impl.GtNot, 0, 0}, {impl.GtOr, 0, 1}}.gates(), true, []bool{false}},
		{"a gate that differs from itself", gateRows{{impl.GtVar}, {impl.GtXor, 0, 0}}.gates(), false, nil},
		{"the second of two that differs from itself", gateRows{{impl.GtVar}, {impl.GtVar}, {impl.GtXor, 1, 1}}.gates(), false, nil},
		{"a gate that does not", gateRows{{impl.GtVar}, {impl.GtXor, 0, 0}, {impl.GtNot, 1, 0}}.gates(), true, []bool{false}},
		{"a gate that differs from its negation", gateRows{{impl.GtVar}, {impl.GtNot, 0, 0}, {impl.GtXor, 1, 0}}.gates(), true, []bool{false}},
		{"one input", someInputs(1), true, []bool{true}},
		{"the last of three inputs", someInputs(3), true, []bool{false, false, true}},
		{"a negation", gateRows{{impl.GtVar}, {impl.GtNot, 0, 0}}.gates(), true, []bool{false}},
		{"both inputs", gateRows{{impl.GtVar}, {impl.GtVar}, {impl.GtAnd, 0, 1}}.gates(), true, []bool{true, true}},
		{"one of two inputs: the first", gateRows{{impl.GtVar}, {impl.GtVar}, {impl.GtOr, 1, 0}}.gates(), true, []bool{true, false}},
		{"two that differ: the first", gateRows{{impl.GtVar}, {impl.GtVar}, {impl.GtXor, 1, 0}}.gates(), true, []bool{true, false}},
		{"the second without the first", gateRows{{impl.GtVar}, {impl.GtNot, 0, 0}, {impl.GtVar}, {impl.GtAnd, 1, 2}}.gates(), true, []bool{false, true}},
		{"an output that is an input, others behind it unused", gateRows{{impl.GtVar}, {impl.GtXor, 0, 0}, {impl.GtVar}}.gates(), true, []bool{false, true}},
	} {
		if can, ins, ok := impl.CanBe(x.g); can != x.can || !slices.Equal(ins, x.ins) || !ok {
			t.Errorf("%s: CanBe(%v) = %t, %v, %t, want %t, %v, true", x.name, x.g, can, ins, ok, x.can, x.ins)
		}
		checkCircuit(t, x.g)
	}
}

// 12, 11 and 1 of 12 gates are inputs.
func TestInputsOfTheLargestCircuits(t *testing.T) {
	last := make([]bool, 12)
	last[11] = true
	if can, ins, ok := impl.CanBe(someInputs(12)); !can || !slices.Equal(ins, last) || !ok {
		t.Errorf("CanBe of 12 inputs = %t, %v, %t", can, ins, ok)
	}
	for kind := impl.GtNot; kind <= impl.GtXor; kind++ {
		x := impl.Gate{Kind: kind, A: 10, B: 9}
		if kind == impl.GtNot {
			x.B = 0
		}
		checkCircuit(t, append(someInputs(11), x))
		chain := someInputs(1)
		for k := 1; k < 12; k++ {
			x.A = k - 1
			if kind != impl.GtNot {
				x.B = max(0, k-2)
			}
			chain = append(chain, x)
		}
		checkCircuit(t, chain)
	}
	never := append(someInputs(11), impl.Gate{Kind: impl.GtXor, A: 10, B: 10})
	if can, ins, ok := impl.CanBe(never); can || len(ins) != 0 || !ok {
		t.Errorf("CanBe(%v) = %t, %v, %t", never, can, ins, ok)
	}
	checkCircuit(t, never)
	checkCircuit(t, someInputs(12))
}

// xors are circuits for whether two inputs differ.
func xors() map[string][]impl.Gate {
	return map[string][]impl.Gate{
		"itself": gateRows{{impl.GtVar}, {impl.GtVar}, {impl.GtXor, 0, 1}}.gates(),
		"turned": gateRows{{impl.GtVar}, {impl.GtVar}, {impl.GtXor, 1, 0}}.gates(),
		"one but not both": gateRows{{impl.GtVar}, {impl.GtVar}, {impl.GtOr, 0, 1}, {impl.GtAnd, 0, 1},
			{impl.GtNot, 3, 0}, {impl.GtAnd, 2, 4}}.gates(),
		"one without the other": gateRows{{impl.GtVar}, {impl.GtVar}, {impl.GtNot, 0, 0}, {impl.GtNot, 1, 0},
			{impl.GtAnd, 0, 3}, {impl.GtAnd, 2, 1}, {impl.GtOr, 4, 5}}.gates(),
		"an input behind another gate": gateRows{{impl.GtVar}, {impl.GtNot, 0, 0}, {impl.GtVar}, {impl.GtXor, 1, 2},
			{impl.GtNot, 3, 0}}.gates(),
		"unused gates": gateRows{{impl.GtVar}, {impl.GtAnd, 0, 0}, {impl.GtOr, 1, 0}, {impl.GtVar}, {impl.GtNot, 3, 0},
			{impl.GtXor, 2, 3}}.gates(),
	}
}

func TestAlwaysSameByHand(t *testing.T) {
	for name, a := range xors() {
		for other, b := range xors() {
			if same, ok := impl.AlwaysSame(a, b); !same || !ok {
				t.Errorf("AlwaysSame of %s and %s = %t, %t", name, other, same, ok)
			}
			if same, ok := impl.AlwaysSame(a, negatedGates(b)); same || !ok {
				t.Errorf("AlwaysSame of %s and not %s = %t, %t", name, other, same, ok)
			}
			checkSameOutputs(t, a, b)
		}
		checkCircuit(t, a)
	}
	g := gateRows{{impl.GtVar}, {impl.GtVar}, {impl.GtAnd, 0, 1}}.gates()
	for kind, want := range map[int]bool{impl.GtAnd: true, impl.GtOr: false, impl.GtXor: false} {
		for _, x := range []impl.Gate{{Kind: kind, B: 1}, {Kind: kind, A: 1}} {
			if same, ok := impl.AlwaysSame(g, append(someInputs(2), x)); same != want || !ok {
				t.Errorf("AlwaysSame(%v, ... %v) = %t, %t, want %t, true", g, x, same, ok, want)
			}
		}
	}
	first := gateRows{{impl.GtVar}, {impl.GtVar}, {impl.GtAnd, 0, 0}}.gates()
	if same, ok := impl.AlwaysSame(first, someInputs(2)); same || !ok {
		t.Errorf("AlwaysSame of the first and the second input = %t, %t", same, ok)
	}
}

// Circuits that differ for one of the input values alone, each of them.
func TestSameButForOneInputValue(t *testing.T) {
	for inputs := 1; inputs <= 4; inputs++ {
		never, always := constantGates(inputs, false), constantGates(inputs, true)
		checkCircuit(t, never)
		checkCircuit(t, always)
		for n := range 1 << inputs {
			g := trueAt(inputs, n)
			not := negatedGates(g)
			for _, x := range [][2][]impl.Gate{{g, never}, {not, always}} {
				if checkSameOutputs(t, x[0], x[1]) {
					t.Errorf("%v and %v differ for %d", x[0], x[1], n)
				}
			}
			for other := range 1 << inputs {
				if same := checkSameOutputs(t, g, trueAt(inputs, other)); same != (n == other) {
					t.Errorf("%v and the one for %d are the same: %t", g, other, same)
				}
			}
		}
	}
}

// All pairs of small circuits, also those of different numbers of inputs.
func TestEveryPairOfCircuits(t *testing.T) {
	var all [][]impl.Gate
	for size := 1; size <= 3; size++ {
		eachCircuit(size, func(g []impl.Gate) { all = append(all, g) })
	}
	counts := map[bool]int{}
	for _, a := range all {
		for _, b := range all {
			if len(wantInputs(a)) != len(wantInputs(b)) {
				wantZeroSameGates(t, "different numbers of inputs", a, b)
				continue
			}
			counts[checkSameOutputs(t, a, b)]++
		}
	}
	if counts[true] <= len(all) || counts[false] < len(all) {
		t.Errorf("%d pairs are the same, %d are not", counts[true], counts[false])
	}
}

// padded has the same output, but gates among the others that nothing uses, and
// some of the gates are used by way of two negations or with A and B turned.
func padded(r *lcg, g []impl.Gate) []impl.Gate {
	var wide []impl.Gate
	room := 12 - len(g)
	at := make([]int, len(g))
	for k, x := range g {
		if sidesOf(x.Kind) > 0 {
			x.A = at[x.A]
		}
		if sidesOf(x.Kind) > 1 {
			x.B = at[x.B]
			if r.below(2) == 0 {
				x.A, x.B = x.B, x.A
			}
		}
		wide = append(wide, x)
		at[k] = len(wide) - 1
		switch fill := r.below(4); {
		case fill == 0 && room >= 2:
			wide = append(wide, impl.Gate{Kind: impl.GtNot, A: at[k]}, impl.Gate{Kind: impl.GtNot, A: len(wide)})
			at[k] = len(wide) - 1
			room -= 2
		case fill == 1 && room >= 1 && k < len(g)-1:
			wide = append(wide, impl.Gate{Kind: impl.GtXor, A: at[k], B: r.below(len(wide))})
			room--
		}
	}
	return wide
}

// Circuits with the same values and inputs at other indexes.
func TestPaddedCircuits(t *testing.T) {
	r := lcg(104)
	moved, changed := 0, 0
	for range 3000 {
		g := someCircuit(&r, 1+r.below(9))
		wide := padded(&r, g)
		if !wantGoodGates(wide) || !checkSameOutputs(t, g, wide) {
			t.Fatalf("%v became %v", g, wide)
		}
		if !slices.Equal(wantInputs(g), wantInputs(wide)) {
			moved++
		}
		at := slices.IndexFunc(wide, func(x impl.Gate) bool { return sidesOf(x.Kind) == 2 })
		if at >= 0 {
			wide[at].Kind = impl.GtAnd + (wide[at].Kind-impl.GtAnd+1)%3
			if !checkSameOutputs(t, g, wide) {
				changed++
			}
		}
	}
	if moved < 500 || changed < 300 {
		t.Errorf("the inputs moved in %d circuits, and %d were changed", moved, changed)
	}
}

func TestSomePairsOfCircuits(t *testing.T) {
	r := lcg(105)
	counts := map[bool]int{}
	for range 3000 {
		inputs := 1 + r.below(3)
		a, b := someOfInputs(&r, inputs+r.below(10), inputs), someOfInputs(&r, inputs+r.below(10), inputs)
		counts[checkSameOutputs(t, a, b)]++
	}
	if counts[true] < 300 || counts[false] < 300 {
		t.Errorf("%d pairs are the same, %d are not", counts[true], counts[false])
	}
}

func wantZeroSameGates(t *testing.T, name string, a, b []impl.Gate) {
	t.Helper()
	if same, ok := impl.AlwaysSame(a, b); same || ok {
		t.Errorf("%s: AlwaysSame(%v, %v) = %t, %t", name, a, b, same, ok)
	}
}

func wantZeroGateClauses(t *testing.T, name string, g []impl.Gate, k int) {
	t.Helper()
	if l, ok := impl.GateClauses(g, k); len(l) != 0 || ok {
		t.Errorf("%s: GateClauses(%v, %d) = %v, %t", name, g, k, l, ok)
	}
}

func wantZeroEval(t *testing.T, name string, g []impl.Gate, ins []bool) {
	t.Helper()
	if values, ok := impl.EvalGates(g, ins); len(values) != 0 || ok {
		t.Errorf("%s: EvalGates(%v, %v) = %v, %t", name, g, ins, values, ok)
	}
}

func wantZeroInputsBy(t *testing.T, name string, g []impl.Gate, model []bool) {
	t.Helper()
	if ins, ok := impl.InputsBy(g, model); len(ins) != 0 || ok {
		t.Errorf("%s: InputsBy(%v, %v) = %v, %t", name, g, model, ins, ok)
	}
}

// wantZeroGates is for a circuit that is not valid, as each argument.
func wantZeroGates(t *testing.T, name string, g []impl.Gate) {
	t.Helper()
	if impl.GoodGates(g) {
		t.Fatalf("%s: GoodGates(%v) = true", name, g)
	}
	for size := range 15 {
		for _, value := range []bool{false, true} {
			wantZeroEval(t, name, g, slices.Repeat([]bool{value}, size))
			wantZeroInputsBy(t, name, g, slices.Repeat([]bool{value}, size))
		}
	}
	wantZeroEval(t, name, g, nil)
	wantZeroInputsBy(t, name, g, nil)
	if inputs, ok := impl.InputsOf(g); len(inputs) != 0 || ok {
		t.Errorf("%s: InputsOf(%v) = %v, %t", name, g, inputs, ok)
	}
	for k := -1; k < 15; k++ {
		wantZeroGateClauses(t, name, g, k)
	}
	if l, ok := impl.ClausesOf(g); len(l) != 0 || ok {
		t.Errorf("%s: ClausesOf(%v) = %v, %t", name, g, l, ok)
	}
	if can, ins, ok := impl.CanBe(g); can || len(ins) != 0 || ok {
		t.Errorf("%s: CanBe(%v) = %t, %v, %t", name, g, can, ins, ok)
	}
	wantZeroSameGates(t, name, g, g)
	wantZeroSameGates(t, name, g, nil)
	for inputs := 1; inputs <= 12; inputs++ {
		wantZeroSameGates(t, name, g, someInputs(inputs))
		wantZeroSameGates(t, name, someInputs(inputs), g)
	}
}

// checkAnyGates is for a circuit that may be valid. It reports whether it is.
func checkAnyGates(t *testing.T, g []impl.Gate) bool {
	t.Helper()
	if !wantGoodGates(g) {
		wantZeroGates(t, "not valid", g)
		return false
	}
	checkGates(t, g)
	checkGateClauses(t, g)
	return true
}

// gatesWith has another gate at an index of a circuit that uses every kind.
func gatesWith(at int, x impl.Gate) []impl.Gate {
	g := mixedGates()
	g[at] = x
	return g
}

// Promise 19: gates that are not valid, at the first, a middle and the last
// index.
func TestBadGates(t *testing.T) {
	last := len(mixedGates()) - 1
	far := []int{math.MinInt, math.MinInt + 1, -1 << 32, -13, -2, -1, 12, 13, 1 << 32, 1<<32 + 1, math.MaxInt - 1, math.MaxInt}
	for _, at := range []int{0, 1, 4, last} {
		name := fmt.Sprintf("gate %d", at)
		for _, kind := range append([]int{0, 6, 7, -1, -2, -3, -4, -5}, far...) {
			wantZeroGates(t, name, gatesWith(at, impl.Gate{Kind: kind}))
		}
		for _, n := range append([]int{at, at + 1, last, last + 1}, far...) {
			if n == 0 {
				continue
			}
			wantZeroGates(t, name, gatesWith(at, impl.Gate{Kind: impl.GtVar, A: n}))
			wantZeroGates(t, name, gatesWith(at, impl.Gate{Kind: impl.GtVar, B: n}))
			wantZeroGates(t, name, gatesWith(at, impl.Gate{Kind: impl.GtNot, A: 0, B: n}))
			wantZeroGates(t, name, gatesWith(at, impl.Gate{Kind: impl.GtNot, A: n}))
			for kind := impl.GtAnd; kind <= impl.GtXor; kind++ {
				wantZeroGates(t, name, gatesWith(at, impl.Gate{Kind: kind, A: n}))
				wantZeroGates(t, name, gatesWith(at, impl.Gate{Kind: kind, B: n}))
				wantZeroGates(t, name, gatesWith(at, impl.Gate{Kind: kind, A: n, B: n}))
			}
		}
	}
	for kind := impl.GtNot; kind <= impl.GtXor; kind++ {
		wantZeroGates(t, "the gate itself", []impl.Gate{{Kind: kind}})
		wantZeroGates(t, "the gate itself, first", []impl.Gate{{Kind: kind}, {Kind: impl.GtVar}})
	}
}

// Promise 19: A and B that are just valid are taken, and what is next to them
// is not.
func TestGatesAtTheLimits(t *testing.T) {
	for k := range 12 {
		for kind := -1; kind <= 7; kind++ {
			for a := -1; a <= k+1; a++ {
				for b := -1; b <= k+1; b++ {
					g := append(someInputs(k), impl.Gate{Kind: kind, A: a, B: b})
					if got, want := impl.GoodGates(g), wantGoodGates(g); got != want {
						t.Fatalf("GoodGates(%v) = %t", g, got)
					}
					if k < 5 {
						checkAnyGates(t, g)
					}
				}
			}
		}
	}
}

// Promise 19: none, 12, 13 and more gates.
func TestNumbersOfGates(t *testing.T) {
	wantZeroGates(t, "nil", nil)
	wantZeroGates(t, "no gates", []impl.Gate{})
	for _, size := range []int{13, 14, 24, 64, 1000} {
		wantZeroGates(t, "too many gates", someInputs(size))
		g := someInputs(1)
		for k := 1; k < size; k++ {
			g = append(g, impl.Gate{Kind: impl.GtNot, A: k - 1})
		}
		wantZeroGates(t, "too many gates", g)
		wantZeroGates(t, "too many gates", append(someInputs(size-1), impl.Gate{Kind: impl.GtOr, B: 1}))
	}
	for size := 1; size <= 12; size++ {
		checkCircuit(t, someInputs(size))
	}
}

// Promise 19: input values and models that do not have a value for each input
// or each gate.
func TestNumbersOfValues(t *testing.T) {
	r := lcg(106)
	for i := range 240 {
		g := someCircuit(&r, 1+i%12)
		inputs := len(wantInputs(g))
		for size := range 15 {
			for _, value := range []bool{false, true} {
				values := slices.Repeat([]bool{value}, size)
				if size != inputs {
					wantZeroEval(t, "a wrong number of inputs", g, values)
				}
				if size != len(g) {
					wantZeroInputsBy(t, "a wrong number of values", g, values)
				}
			}
		}
		wantZeroEval(t, "nil", g, nil)
		wantZeroInputsBy(t, "nil", g, nil)
	}
}

// Promise 19: gates that a circuit does not have.
func TestIndexesOfGates(t *testing.T) {
	r := lcg(107)
	for i := range 120 {
		g := someCircuit(&r, 1+i%12)
		for _, k := range slices.Concat(oddNumbers, []int{len(g) - 1, len(g), len(g) + 1, -len(g), 12, 13}) {
			if k < 0 || k >= len(g) {
				wantZeroGateClauses(t, "no such gate", g, k)
				continue
			}
			if l, ok := impl.GateClauses(g, k); !sameClauses(l, wantGateClauses(g, k)) || !ok {
				t.Errorf("GateClauses(%v, %d) = %v, %t", g, k, l, ok)
			}
		}
	}
}

// Promise 19: two circuits with different numbers of inputs, also if they have
// the same number of gates or the same output.
func TestDifferentNumbersOfInputs(t *testing.T) {
	r := lcg(108)
	for a := 1; a <= 12; a++ {
		for b := 1; b <= 12; b++ {
			if a == b {
				continue
			}
			wantZeroSameGates(t, "inputs alone", someInputs(a), someInputs(b))
			x, y := someOfInputs(&r, 12, a), someOfInputs(&r, 12, b)
			wantZeroSameGates(t, "12 gates", x, y)
			if a <= 10 && b <= 10 {
				wantZeroSameGates(t, "never true", constantGates(a, false), constantGates(b, false))
				wantZeroSameGates(t, "always true", constantGates(a, true), constantGates(b, true))
			}
		}
	}
}

// spoilGates changes a circuit so that it is likely, not certain, that it is not
// valid.
func spoilGates(r *lcg, g []impl.Gate) []impl.Gate {
	g = slices.Clone(g)
	at := r.below(len(g))
	n := r.below(15) - 1
	if r.below(4) == 0 {
		n = oddNumbers[r.below(len(oddNumbers))]
	}
	switch r.below(6) {
	case 0:
		g[at].Kind = n
	case 1:
		g[at].A = n
	case 2:
		g[at].B = n
	case 3:
		g = slices.Delete(g, at, at+1)
	case 4:
		other := r.below(len(g))
		g[at], g[other] = g[other], g[at]
	case 5:
		g = slices.Insert(g, r.below(len(g)+1), g[at])
	}
	return g
}

// Promise 19: valid circuits with one or two changes.
func TestSpoiledCircuits(t *testing.T) {
	r := lcg(109)
	good := 0
	for i := range 6000 {
		g := spoilGates(&r, someCircuit(&r, 1+i%12))
		if i%3 == 0 && len(g) > 0 {
			g = spoilGates(&r, g)
		}
		if len(wantInputs(g)) > 8 && wantGoodGates(g) {
			continue
		}
		if checkAnyGates(t, g) {
			good++
		}
	}
	if good < 500 || good > 4000 {
		t.Errorf("%d circuits are valid", good)
	}
}

// Promise 19: the functions answer for every number in every place.
func TestCircuitsWithOddNumbers(t *testing.T) {
	r := lcg(110)
	for range 6000 {
		var g []impl.Gate
		for range r.below(6) {
			g = append(g, impl.Gate{Kind: oftenSmall(&r), A: oftenSmall(&r), B: oftenSmall(&r)})
		}
		checkAnyGates(t, g)
	}
}

// roomyGates returns an equal circuit that has gates behind its length.
func roomyGates(g []impl.Gate) []impl.Gate {
	return append(slices.Clone(g), impl.Gate{Kind: impl.GtVar}, impl.Gate{Kind: -7, A: -7, B: -7})[:len(g)]
}

func roomOfGates(g []impl.Gate) []impl.Gate {
	return g[:len(g)+2]
}

// Promise 19: no argument is changed, up to the capacity of its memory.
func TestCircuitArgumentsAreNotChanged(t *testing.T) {
	r := lcg(111)
	for i := range 1200 {
		a, b := someCircuit(&r, 1+i%9), someCircuit(&r, 1+r.below(9))
		if i%4 == 0 {
			a = spoilGates(&r, a)
		}
		a, b = roomyGates(a), roomyGates(b)
		ins, model := roomyBools(make([]bool, len(wantInputs(a)))), roomyBools(slices.Repeat([]bool{true}, len(a)))
		gatesA, gatesB := slices.Clone(roomOfGates(a)), slices.Clone(roomOfGates(b))
		bools := [][]bool{slices.Clone(roomOfBools(ins)), slices.Clone(roomOfBools(model))}
		impl.GoodGates(a)
		impl.EvalGates(a, ins)
		impl.InputsOf(a)
		for k := -1; k <= len(a); k++ {
			impl.GateClauses(a, k)
		}
		impl.ClausesOf(a)
		impl.InputsBy(a, model)
		impl.CanBe(a)
		impl.AlwaysSame(a, b)
		impl.AlwaysSame(b, a)
		impl.AlwaysSame(a, a)
		if !slices.Equal(roomOfGates(a), gatesA) || !slices.Equal(roomOfGates(b), gatesB) {
			t.Fatalf("%v, %v became %v, %v", gatesA, gatesB, roomOfGates(a), roomOfGates(b))
		}
		if !slices.Equal(roomOfBools(ins), bools[0]) || !slices.Equal(roomOfBools(model), bools[1]) {
			t.Fatalf("%v became %v, %v", bools, roomOfBools(ins), roomOfBools(model))
		}
	}
}

// checkNewBools overwrites what is returned with each of the two values.
func checkNewBools(t *testing.T, call func() []bool) {
	t.Helper()
	checkNew(t, call, false)
	checkNew(t, call, true)
}

// Promise 19: results share no memory with an argument or with one another,
// also where a result is equal to an argument.
func TestCircuitResultsAreNewMemory(t *testing.T) {
	r := lcg(112)
	circuits := [][]impl.Gate{someInputs(1), someInputs(4), someInputs(12), constantGates(2, false), constantGates(2, true)}
	for i := range 600 {
		circuits = append(circuits, someCircuit(&r, 1+i%9))
	}
	for _, g := range circuits {
		g = roomyGates(g)
		ins, model := roomyBools(inputsAt(len(wantInputs(g)), r.below(4096))), roomyBools(inputsAt(len(g), r.below(4096)))
		gates := slices.Clone(roomOfGates(g))
		bools := [][]bool{slices.Clone(roomOfBools(ins)), slices.Clone(roomOfBools(model))}
		checkNewBools(t, func() []bool { values, _ := impl.EvalGates(g, ins); return values })
		checkNewBools(t, func() []bool { ins, _ := impl.InputsBy(g, model); return ins })
		checkNewBools(t, func() []bool { _, ins, _ := impl.CanBe(g); return ins })
		checkNew(t, func() []int { inputs, _ := impl.InputsOf(g); return inputs }, -7)
		checkApart(t, func() [][]int { l, _ := impl.ClausesOf(g); return l })
		for k := range g {
			checkApart(t, func() [][]int { l, _ := impl.GateClauses(g, k); return l })
		}
		if !slices.Equal(roomOfGates(g), gates) || !slices.Equal(roomOfBools(ins), bools[0]) || !slices.Equal(roomOfBools(model), bools[1]) {
			t.Fatalf("a result shares memory: %v, %v became %v, %v, %v", gates, bools, roomOfGates(g), roomOfBools(ins), roomOfBools(model))
		}
	}
}

// Promise 19: what is behind the length of a list does not count, even if it
// would make a valid argument, or one that is not valid.
func TestCircuitsBehindTheLength(t *testing.T) {
	whole := mixedGates()
	for size := 1; size <= len(whole); size++ {
		checkCircuit(t, whole[:size])
		checkCircuit(t, roomyGates(whole[:size]))
	}
	wantZeroGates(t, "gates behind the length", whole[:0])
	values := make([]bool, 12)
	for size := range len(whole) {
		wantZeroInputsBy(t, "values behind the length", whole, values[:size])
		if size != len(wantInputs(whole)) {
			wantZeroEval(t, "values behind the length", whole, values[:size])
		}
	}
}

// Promise 19: two circuits may share their gates.
func TestCircuitsThatShareGates(t *testing.T) {
	whole := gateRows{{impl.GtVar}, {impl.GtVar}, {impl.GtXor, 0, 1}, {impl.GtNot, 2, 0}, {impl.GtNot, 3, 0}}.gates()
	for _, x := range []struct {
		a, b int
		want bool
	}{{5, 5, true}, {5, 3, true}, {3, 5, true}, {4, 3, false}, {4, 5, false}, {2, 3, false}} {
		if same, ok := impl.AlwaysSame(whole[:x.a], whole[:x.b]); same != x.want || !ok {
			t.Errorf("AlwaysSame of the first %d and the first %d of %v = %t, %t", x.a, x.b, whole, same, ok)
		}
	}
	for _, name := range slices.Sorted(maps.Keys(xors())) {
		g := xors()[name]
		if same, ok := impl.AlwaysSame(g, g); !same || !ok {
			t.Errorf("AlwaysSame of %s and itself = %t, %t", name, same, ok)
		}
	}
}
