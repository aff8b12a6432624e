package tests

import (
	"fmt"
	"math"
	"slices"
	"testing"

	"loop.example/g00605/impl"
)

func sameClauses(a, b [][]int) bool {
	return slices.EqualFunc(a, b, slices.Equal[[]int])
}

func cloneClauses(l [][]int) [][]int {
	c := make([][]int, len(l))
	for i := range l {
		c[i] = slices.Clone(l[i])
	}
	return c
}

func wantGoodClause(vars int, c []int) bool {
	seen := map[int]bool{}
	for _, x := range c {
		v := max(x, -x)
		if v < 1 || v > vars || seen[v] {
			return false
		}
		seen[v] = true
	}
	return len(c) <= 12
}

func wantGoodClauses(vars int, l [][]int) bool {
	good := vars >= 0 && vars <= 12 && len(l) <= 60
	for _, c := range l {
		good = good && wantGoodClause(vars, c)
	}
	return good
}

func wantHolds(c []int, model []bool) bool {
	for _, x := range c {
		if x > 0 && model[x-1] || x < 0 && !model[-x-1] {
			return true
		}
	}
	return false
}

func wantHoldsAll(l [][]int, model []bool) bool {
	for _, c := range l {
		if !wantHolds(c, model) {
			return false
		}
	}
	return true
}

func wantReduce(l [][]int, given []int) [][]int {
	var reduced [][]int
	for _, c := range l {
		if slices.ContainsFunc(c, func(x int) bool { return slices.Contains(given, x) }) {
			continue
		}
		reduced = append(reduced, slices.DeleteFunc(slices.Clone(c), func(x int) bool { return slices.Contains(given, -x) }))
	}
	return reduced
}

// wantPropagate reduces the clauses by what is known, and takes the first one
// of the reduced clauses that has at most one literal.
func wantPropagate(l [][]int, given []int) ([]int, bool) {
	known := slices.Clone(given)
	for {
		left := wantReduce(l, known)
		at := slices.IndexFunc(left, func(c []int) bool { return len(c) < 2 })
		if at < 0 {
			return known, false
		}
		if len(left[at]) == 0 {
			return known, true
		}
		known = append(known, left[at][0])
	}
}

func wantClean(c []int) ([]int, bool) {
	var kept []int
	for i, x := range c {
		if slices.Index(c, x) == i {
			kept = append(kept, x)
		}
		if x == 0 || x < -12 || x > 12 || slices.Contains(c, -x) {
			return nil, false
		}
	}
	if len(c) > 40 {
		return nil, false
	}
	return kept, true
}

func wantResolve(a, b []int, v int) ([]int, bool) {
	if !wantGoodClause(12, a) || !wantGoodClause(12, b) || v < 1 || !slices.Contains(a, v) || !slices.Contains(b, -v) {
		return nil, false
	}
	var all []int
	for _, x := range slices.Concat(a, b) {
		if x != v && x != -v {
			all = append(all, x)
		}
	}
	return wantClean(all)
}

func eachModel(vars int, visit func(model []bool)) {
	model := make([]bool, vars)
	var from func(i int)
	from = func(i int) {
		if i == vars {
			visit(model)
			return
		}
		for _, b := range []bool{false, true} {
			model[i] = b
			from(i + 1)
		}
	}
	from(0)
}

func units(literals []int) [][]int {
	var l [][]int
	for _, x := range literals {
		l = append(l, []int{x})
	}
	return l
}

// checkClauses compares every function that takes clauses and given literals.
func checkClauses(t *testing.T, vars int, l [][]int, given []int) {
	t.Helper()
	if got, want := impl.GoodClauses(vars, l), wantGoodClauses(vars, l); got != want {
		t.Fatalf("GoodClauses(%d, %v) = %t", vars, l, got)
	}
	if !wantGoodClauses(vars, l) || !wantGoodClause(vars, given) {
		wantZeroGiven(t, vars, l, given)
		return
	}
	want, falsified := wantPropagate(l, given)
	got, bad, ok := impl.Propagate(vars, l, given)
	if !slices.Equal(got, want) || bad != falsified || !ok {
		t.Fatalf("Propagate(%d, %v, %v) = %v, %t, %t, want %v, %t, true", vars, l, given, got, bad, ok, want, falsified)
	}
	if r, ok := impl.Reduce(vars, l, given); !sameClauses(r, wantReduce(l, given)) || !ok {
		t.Fatalf("Reduce(%d, %v, %v) = %v, %t, want %v", vars, l, given, r, ok, wantReduce(l, given))
	}
}

// checkModels is promise 4 for the clauses, by trying all models.
func checkModels(t *testing.T, vars int, l [][]int, given []int) {
	t.Helper()
	derived, falsified, ok := impl.Propagate(vars, l, given)
	reduced, ok2 := impl.Reduce(vars, l, given)
	if !ok || !ok2 || !wantGoodClause(vars, derived) || !slices.Equal(derived[:len(given)], given) {
		t.Fatalf("Propagate(%d, %v, %v) = %v, %t, %t", vars, l, given, derived, falsified, ok)
	}
	count := 0
	eachModel(vars, func(model []bool) {
		all := wantHoldsAll(l, model)
		if all {
			count++
		}
		if got, ok := impl.HoldsAll(vars, l, model); got != all || !ok {
			t.Fatalf("HoldsAll(%d, %v, %v) = %t, %t", vars, l, model, got, ok)
		}
		if !wantHoldsAll(units(given), model) {
			return
		}
		if got, ok := impl.HoldsAll(vars, reduced, model); got != all || !ok {
			t.Fatalf("in %v, %v reduced by %v holds: %t, %t", model, l, given, got, ok)
		}
		if all && (falsified || !wantHoldsAll(units(derived), model)) {
			t.Fatalf("%v satisfies %v and %v, but %v, %t is derived", model, l, given, derived, falsified)
		}
	})
	if n, ok := impl.CountModels(vars, l); n != count || !ok {
		t.Fatalf("CountModels(%d, %v) = %d, %t, want %d", vars, l, n, ok, count)
	}
}

func checkResolve(t *testing.T, a, b []int, v int) {
	t.Helper()
	want, wantOk := wantResolve(a, b, v)
	before := cloneClauses([][]int{a, b})
	if got, ok := impl.Resolve(a, b, v); !slices.Equal(got, want) || ok != wantOk {
		t.Fatalf("Resolve(%v, %v, %d) = %v, %t, want %v, %t", a, b, v, got, ok, want, wantOk)
	}
	if !sameClauses([][]int{a, b}, before) {
		t.Fatalf("Resolve changed %v to %v, %v", before, a, b)
	}
}

func checkClean(t *testing.T, c []int) {
	t.Helper()
	want, wantOk := wantClean(c)
	before := slices.Clone(c)
	if got, ok := impl.CleanClause(c); !slices.Equal(got, want) || ok != wantOk {
		t.Fatalf("CleanClause(%v) = %v, %t, want %v, %t", before, got, ok, want, wantOk)
	}
	if !slices.Equal(c, before) {
		t.Fatalf("CleanClause changed %v to %v", before, c)
	}
}

func wantZeroGiven(t *testing.T, vars int, l [][]int, given []int) {
	t.Helper()
	if p, bad, ok := impl.Propagate(vars, l, given); len(p) != 0 || bad || ok {
		t.Fatalf("Propagate(%d, %v, %v) = %v, %t, %t", vars, l, given, p, bad, ok)
	}
	if r, ok := impl.Reduce(vars, l, given); len(r) != 0 || ok {
		t.Fatalf("Reduce(%d, %v, %v) = %v, %t", vars, l, given, r, ok)
	}
}

// wantZeroClauses is for clauses that are not valid, whatever is beside them.
func wantZeroClauses(t *testing.T, name string, vars int, l [][]int) {
	t.Helper()
	if impl.GoodClauses(vars, l) {
		t.Errorf("GoodClauses accepts %s", name)
	}
	if n, ok := impl.CountModels(vars, l); n != 0 || ok {
		t.Errorf("CountModels of %s = %d, %t", name, n, ok)
	}
	for _, given := range [][]int{nil, {}, {1}, {-1}, {1, 2}} {
		wantZeroGiven(t, vars, l, given)
	}
	for size := range 15 {
		if h, ok := impl.HoldsAll(vars, l, make([]bool, size)); h || ok {
			t.Errorf("HoldsAll of %s in a model of %d variables = %t, %t", name, size, h, ok)
		}
	}
}

func wantAcceptedClauses(t *testing.T, vars int, l [][]int) {
	t.Helper()
	if !impl.GoodClauses(vars, l) {
		t.Fatalf("GoodClauses rejects %v of %d variables", l, vars)
	}
	checkClauses(t, vars, l, nil)
	checkModels(t, vars, l, nil)
}

// listed returns all clauses of the variables 1..vars in all orders.
func listed(vars int) [][]int {
	all := [][]int{{}}
	for i := 0; i < len(all); i++ {
		for x := -vars; x <= vars; x++ {
			if c := append(slices.Clone(all[i]), x); wantGoodClause(vars, c) {
				all = append(all, c)
			}
		}
	}
	return all
}

func someClause(g *lcg, vars int, size int) []int {
	left := make([]int, vars)
	for i := range left {
		left[i] = i + 1
	}
	c := []int{}
	for len(c) < size && len(left) > 0 {
		i := g.below(len(left))
		c = append(c, left[i]*(1-2*g.below(2)))
		left = slices.Delete(left, i, i+1)
	}
	return c
}

func someClauses(g *lcg, vars int, count int) [][]int {
	l := make([][]int, count)
	for i := range l {
		size := 1 + g.below(3)
		if g.below(12) == 0 {
			size = g.below(vars + 1)
		}
		l[i] = someClause(g, vars, size)
	}
	return l
}

func TestClauseConstants(t *testing.T) {
	if impl.MaxVars != 12 || impl.MaxClauses != 60 {
		t.Errorf("MaxVars = %d, MaxClauses = %d", impl.MaxVars, impl.MaxClauses)
	}
}

func TestPropagateValues(t *testing.T) {
	rows := []struct {
		name      string
		vars      int
		l         [][]int
		given     []int
		want      []int
		falsified bool
	}{
		{"the example", 2, [][]int{{1, 2}, {-1}}, nil, []int{-1, 2}, false},
		{"units in the order of the list", 4, [][]int{{1}, {-1, 2}, {-2, 3}, {-3, 4}}, nil, []int{1, 2, 3, 4}, false},
		{"units against the order of the list", 4, [][]int{{-3, 4}, {-2, 3}, {-1, 2}, {1}}, nil, []int{1, 2, 3, 4}, false},
		{"units back and forth", 5, [][]int{{-2, 3}, {-4, 5}, {1}, {-3, 4}, {-1, 2}}, nil, []int{1, 2, 3, 4, 5}, false},
		{"a clause ahead is taken before the next one", 4, [][]int{{-1, 4}, {1}, {2}, {3}}, nil, []int{1, 4, 2, 3}, false},
		{"a clause behind waits for all ahead", 4, [][]int{{3}, {-4, 1}, {2}, {4}}, nil, []int{3, 2, 4, 1}, false},
		{"the remaining literal is the first", 3, [][]int{{3, 1, 2}}, []int{-2, -1}, []int{-2, -1, 3}, false},
		{"the remaining literal is in the middle", 3, [][]int{{1, -3, 2}}, []int{-2, -1}, []int{-2, -1, -3}, false},
		{"the remaining literal is the last", 3, [][]int{{1, 2, 3}}, []int{-2, -1}, []int{-2, -1, 3}, false},
		{"two literals remain", 3, [][]int{{1, 2, 3}}, []int{-2}, []int{-2}, false},
		{"the literal so far is behind the only other one", 2, [][]int{{1, 2}}, []int{2}, []int{2}, false},
		{"the literal so far is ahead of the only other one", 2, [][]int{{2, 1}}, []int{2}, []int{2}, false},
		{"a satisfied clause whose others are all negated", 3, [][]int{{1, 2, 3}}, []int{-1, 3, -2}, []int{-1, 3, -2}, false},
		{"the same unit twice", 2, [][]int{{2}, {2}, {1}}, nil, []int{2, 1}, false},
		{"a unit against a unit", 1, [][]int{{1}, {-1}}, nil, []int{1}, true},
		{"a unit against a unit, reversed", 1, [][]int{{-1}, {1}}, nil, []int{-1}, true},
		{"falsified while one behind is unit", 3, [][]int{{1, 2}, {3}}, []int{-1, -2}, []int{-1, -2}, true},
		{"falsified while one ahead is unit", 3, [][]int{{3}, {1, 2}}, []int{-1, -2}, []int{-1, -2, 3}, true},
		{"falsified by a derived literal, one behind is unit", 3, [][]int{{-1, -2}, {1}, {2}, {3}}, nil, []int{1, -2}, true},
		{"falsified ahead of the clause that derived", 3, [][]int{{-1, -3}, {-2, 3}, {2}, {1}}, nil, []int{2, 3, -1}, true},
		{"two clauses are falsified", 2, [][]int{{1, 2}, {2, 1}}, []int{-2, -1}, []int{-2, -1}, true},
		{"the empty clause alone", 0, [][]int{{}}, nil, nil, true},
		{"the empty clause alone, of variables", 3, [][]int{{}}, []int{2}, []int{2}, true},
		{"the empty clause ahead of a unit", 1, [][]int{{}, {1}}, nil, nil, true},
		{"the empty clause behind a unit", 1, [][]int{{1}, {}}, nil, []int{1}, true},
		{"the empty clause among units", 3, [][]int{{3}, {}, {-3, 2}}, nil, []int{3}, true},
		{"the empty clause behind clauses that wait", 2, [][]int{{1, 2}, {-1, 2}, {}}, nil, nil, true},
		{"the empty clause as nil", 1, [][]int{nil, {1}}, nil, nil, true},
		{"no clause", 3, nil, nil, nil, false},
		{"no clause, given literals", 3, [][]int{}, []int{3, -1}, []int{3, -1}, false},
		{"no clause and no variable", 0, nil, []int{}, nil, false},
		{"given literals satisfy all", 3, [][]int{{1, 2}, {-3, 2}, {2}}, []int{2}, []int{2}, false},
		{"given literals falsify a clause", 3, [][]int{{1, 2, 3}, {-1, 2}}, []int{1, -2, 3}, []int{1, -2, 3}, true},
		{"given literals of all variables", 2, [][]int{{1, 2}}, []int{2, -1}, []int{2, -1}, false},
		{"given literals keep their order", 4, [][]int{{-4, 1}}, []int{4, -3, 2}, []int{4, -3, 2, 1}, false},
		{"clauses that never become unit", 2, [][]int{{1, 2}, {-1, -2}, {1, -2}, {-1, 2}}, nil, nil, false},
	}
	for _, r := range rows {
		got, falsified, ok := impl.Propagate(r.vars, r.l, r.given)
		if !slices.Equal(got, r.want) || falsified != r.falsified || !ok {
			t.Errorf("%s: %v, %t, %t, want %v, %t, true", r.name, got, falsified, ok, r.want, r.falsified)
		}
		checkClauses(t, r.vars, r.l, r.given)
		checkModels(t, r.vars, r.l, r.given)
	}
}

// Chains through all variables: one clause becomes unit after the other,
// whichever way the list is turned.
func TestLongChains(t *testing.T) {
	g := lcg(50)
	for range 300 {
		chain := someClause(&g, 12, 12)
		l := [][]int{{chain[0]}}
		for i := 1; i < len(chain); i++ {
			c := []int{chain[i]}
			for _, x := range chain[:i] {
				c = append(c, -x)
			}
			at := g.below(len(c))
			c[0], c[at] = c[at], c[0]
			l = append(l, c)
		}
		end := []int{}
		for _, x := range chain {
			end = append(end, -x)
		}
		for range 4 {
			for i := range l {
				j := i + g.below(len(l)-i)
				l[i], l[j] = l[j], l[i]
			}
			if got, bad, ok := impl.Propagate(12, l, nil); !slices.Equal(got, chain) || bad || !ok {
				t.Fatalf("Propagate(12, %v, nil) = %v, %t, %t, want %v", l, got, bad, ok, chain)
			}
			if got, bad, ok := impl.Propagate(12, slices.Concat([][]int{end}, l), nil); !ok || !bad || len(got) != 12 || !slices.Equal(got[:11], chain[:11]) {
				t.Fatalf("Propagate(12, %v ahead of %v, nil) = %v, %t, %t", end, l, got, bad, ok)
			}
			if got, bad, ok := impl.Propagate(12, l, chain[:5]); !slices.Equal(got, chain) || bad || !ok {
				t.Fatalf("Propagate(12, %v, %v) = %v, %t, %t", l, chain[:5], got, bad, ok)
			}
			checkClauses(t, 12, append(l, end), nil)
		}
	}
}

// Promise 4 for all lists of at most two clauses of two variables, in all
// orders, and all given literals.
func TestEveryPairOfSmallClauses(t *testing.T) {
	all := listed(2)
	for _, given := range all {
		checkClauses(t, 2, nil, given)
		checkModels(t, 2, nil, given)
		for _, a := range all {
			checkClauses(t, 2, [][]int{a}, given)
			checkModels(t, 2, [][]int{a}, given)
			for _, b := range all {
				checkClauses(t, 2, [][]int{a, b}, given)
				checkModels(t, 2, [][]int{a, b}, given)
			}
		}
	}
}

// Promise 4 for lists of clauses of few variables.
func TestPropagatedLiteralsHold(t *testing.T) {
	g := lcg(51)
	for range 12000 {
		vars := g.below(7)
		l := someClauses(&g, vars, g.below(2*vars+2))
		given := someClause(&g, vars, g.below(3))
		checkClauses(t, vars, l, given)
		checkModels(t, vars, l, given)
	}
	for range 40 {
		vars := 7 + g.below(6)
		l := someClauses(&g, vars, g.below(61))
		given := someClause(&g, vars, g.below(vars+1))
		checkClauses(t, vars, l, given)
		checkModels(t, vars, l, given)
	}
}

func TestPropagateLargeLists(t *testing.T) {
	g := lcg(52)
	for range 4000 {
		vars := 8 + g.below(5)
		l := make([][]int, 20+g.below(41))
		for i := range l {
			l[i] = someClause(&g, vars, 2+g.below(4))
		}
		checkClauses(t, vars, l, someClause(&g, vars, g.below(vars+1)))
	}
}

func TestReduceValues(t *testing.T) {
	rows := []struct {
		name  string
		vars  int
		l     [][]int
		given []int
		want  [][]int
	}{
		{"the example", 2, [][]int{{1, 2}, {-1}}, []int{-1}, [][]int{{2}}},
		{"nothing is given", 2, [][]int{{2, 1}, {}, {-1}}, nil, [][]int{{2, 1}, {}, {-1}}},
		{"no clause", 2, nil, []int{1}, nil},
		{"no variable", 0, [][]int{{}}, nil, [][]int{{}}},
		{"all are satisfied", 2, [][]int{{2, 1}, {-1, 2}}, []int{2}, nil},
		{"a falsified clause becomes empty", 2, [][]int{{2, 1}, {1}}, []int{-1, -2}, [][]int{{}, {}}},
		{"a clause with a given and a negated literal", 3, [][]int{{-1, 2, 3}, {3, 2, -1}}, []int{1, 2}, nil},
		{"the literals keep their order", 4, [][]int{{4, -1, 2, -3}}, []int{-2}, [][]int{{4, -1, -3}}},
		{"equal clauses remain", 3, [][]int{{1, 2}, {3}, {1, 2}}, []int{-1}, [][]int{{2}, {3}, {2}}},
		{"no propagation", 3, [][]int{{-1, 2}, {-2, 3}}, []int{1}, [][]int{{2}, {-2, 3}}},
	}
	for _, r := range rows {
		if got, ok := impl.Reduce(r.vars, r.l, r.given); !sameClauses(got, r.want) || !ok {
			t.Errorf("%s: %v, %t, want %v, true", r.name, got, ok, r.want)
		}
	}
}

func TestCountModelsValues(t *testing.T) {
	rows := []struct {
		name string
		vars int
		l    [][]int
		want int
	}{
		{"the example", 2, [][]int{{1, 2}, {-1}}, 1},
		{"no variable, no clause", 0, nil, 1},
		{"no variable, the empty clause", 0, [][]int{{}}, 0},
		{"no clause", 3, [][]int{}, 8},
		{"no clause of 12 variables", 12, nil, 4096},
		{"the empty clause of 12 variables", 12, [][]int{{1}, {}}, 0},
		{"the last variable", 12, [][]int{{-12}}, 2048},
		{"all variables in one clause", 12, [][]int{{1, 2, 3, 4, 5, 6, 7, 8, 9, 10, 11, 12}}, 4095},
		{"all negations in one clause", 12, [][]int{{-12, -11, -10, -9, -8, -7, -6, -5, -4, -3, -2, -1}}, 4095},
		{"a contradiction", 2, [][]int{{2}, {-2}}, 0},
		{"exactly one of two", 2, [][]int{{1, 2}, {-1, -2}}, 2},
		{"variables in no clause", 5, [][]int{{2}, {4}}, 8},
	}
	for _, r := range rows {
		if n, ok := impl.CountModels(r.vars, r.l); n != r.want || !ok {
			t.Errorf("%s: %d, %t, want %d, true", r.name, n, ok, r.want)
		}
	}
}

func TestHoldsAllValues(t *testing.T) {
	l := [][]int{{1, 2}, {-1}}
	rows := []struct {
		name  string
		vars  int
		l     [][]int
		model []bool
		want  bool
	}{
		{"the example", 2, l, []bool{false, true}, true},
		{"the first clause is false", 2, l, []bool{false, false}, false},
		{"the last clause is false", 2, l, []bool{true, true}, false},
		{"the clause in the middle is false", 3, [][]int{{1}, {-3, 2}, {3}}, []bool{true, false, true}, false},
		{"no variable, no clause", 0, nil, nil, true},
		{"no variable, no clause, no nil", 0, [][]int{}, []bool{}, true},
		{"no variable, the empty clause", 0, [][]int{{}}, nil, false},
		{"the empty clause behind a true one", 1, [][]int{{1}, {}}, []bool{true}, false},
		{"no clause", 2, nil, []bool{false, false}, true},
		{"the last literal alone is true", 3, [][]int{{1, 2, -3}}, []bool{false, false, false}, true},
	}
	for _, r := range rows {
		if h, ok := impl.HoldsAll(r.vars, r.l, r.model); h != r.want || !ok {
			t.Errorf("%s: %t, %t, want %t, true", r.name, h, ok, r.want)
		}
	}
}

func TestResolveValues(t *testing.T) {
	twelve := []int{1, 2, 3, 4, 5, 6, 7, 8, 9, 10, 11, 12}
	rows := []struct {
		name string
		a, b []int
		v    int
		want []int
		ok   bool
	}{
		{"the example", []int{1, 2}, []int{-1}, 1, []int{2}, true},
		{"nothing is left", []int{3}, []int{-3}, 3, nil, true},
		{"the order of the literals", []int{5, 1, -2}, []int{4, -1, 3}, 1, []int{5, -2, 4, 3}, true},
		{"shared literals", []int{3, 1, -2}, []int{-2, -1, 4, 3}, 1, []int{3, -2, 4}, true},
		{"all others are shared", []int{1, 2}, []int{2, -1}, 1, []int{2}, true},
		{"another variable has both signs", []int{1, 2}, []int{-1, -2}, 1, nil, false},
		{"the last one has both signs", []int{1, 3, 2}, []int{4, -1, -2}, 1, nil, false},
		{"a lacks v", []int{2}, []int{-1}, 1, nil, false},
		{"a has -v", []int{-1}, []int{-1}, 1, nil, false},
		{"b lacks -v", []int{1}, []int{2}, 1, nil, false},
		{"b has v", []int{1, 2}, []int{1, 3}, 1, nil, false},
		{"the clauses are exchanged", []int{-1}, []int{1, 2}, 1, nil, false},
		{"v is negative", []int{-1}, []int{1, 2}, -1, nil, false},
		{"v is 0", []int{1}, []int{-1}, 0, nil, false},
		{"both are empty", nil, nil, 1, nil, false},
		{"a is empty", nil, []int{-1}, 1, nil, false},
		{"b is empty", []int{1}, []int{}, 1, nil, false},
		{"twelve variables", twelve, []int{-12}, 12, twelve[:11], true},
		{"twelve variables twice", twelve, []int{12, 11, 10, 9, 8, 7, -6, 5, 4, 3, 2, 1}, 6, []int{1, 2, 3, 4, 5, 7, 8, 9, 10, 11, 12}, true},
		{"v beyond the variables", []int{13}, []int{-13}, 13, nil, false},
		{"a has a variable twice", []int{1, 2, 2}, []int{-1}, 1, nil, false},
		{"a has v twice", []int{1, 1}, []int{-1}, 1, nil, false},
		{"a has both signs of v", []int{1, -1}, []int{-1}, 1, nil, false},
		{"a has both signs of another", []int{1, 2, -2}, []int{-1}, 1, nil, false},
		{"b has a variable twice", []int{1}, []int{-1, 3, 3}, 1, nil, false},
		{"b has both signs of v", []int{1}, []int{-1, 1}, 1, nil, false},
		{"a has the literal 0", []int{1, 0}, []int{-1}, 1, nil, false},
		{"b has the literal 0", []int{1}, []int{0, -1}, 1, nil, false},
		{"a has the variable 13", []int{1, 13}, []int{-1}, 1, nil, false},
		{"b has the variable 13", []int{1}, []int{-13, -1}, 1, nil, false},
		{"a has 13 literals", append(slices.Clone(twelve), 12), []int{-1}, 1, nil, false},
		{"b has 13 literals", []int{1}, append([]int{-1}, twelve...), 1, nil, false},
	}
	for _, r := range rows {
		if got, ok := impl.Resolve(r.a, r.b, r.v); !slices.Equal(got, r.want) || ok != r.ok {
			t.Errorf("%s: %v, %t, want %v, %t", r.name, got, ok, r.want, r.ok)
		}
		checkResolve(t, r.a, r.b, r.v)
	}
}

// Promise 4: a resolvent of any two clauses of three variables holds wherever
// both clauses hold.
func TestEveryResolvent(t *testing.T) {
	all := listed(3)
	resolvents := 0
	for _, a := range all {
		for _, b := range all {
			for v := -4; v <= 4; v++ {
				checkResolve(t, a, b, v)
				r, ok := impl.Resolve(a, b, v)
				if !ok {
					continue
				}
				resolvents++
				eachModel(3, func(model []bool) {
					if wantHolds(a, model) && wantHolds(b, model) && !wantHolds(r, model) {
						t.Fatalf("%v of %v and %v does not hold in %v", r, a, b, model)
					}
				})
			}
		}
	}
	if resolvents == 0 {
		t.Error("there is no resolvent")
	}
}

func TestResolveLongClauses(t *testing.T) {
	g := lcg(53)
	for range 40000 {
		a := someClause(&g, 12, 1+g.below(12))
		b := someClause(&g, 12, 1+g.below(12))
		v := a[g.below(len(a))]
		if g.below(8) > 0 {
			for i, x := range b {
				if slices.Contains(a, -x) {
					b[i] = -x
				}
				if x == v {
					b[i] = -x
				}
			}
		}
		checkResolve(t, a, b, v)
		checkResolve(t, b, a, -v)
	}
}

func TestCleanClauseValues(t *testing.T) {
	twenty := slices.Repeat([]int{7, -3}, 20)
	rows := []struct {
		name string
		c    []int
		want []int
		ok   bool
	}{
		{"the example", []int{2, 1, 2}, []int{2, 1}, true},
		{"nothing is repeated", []int{-3, 1, 2}, []int{-3, 1, 2}, true},
		{"nil", nil, nil, true},
		{"the empty list", []int{}, nil, true},
		{"one literal many times", []int{-5, -5, -5, -5}, []int{-5}, true},
		{"first occurrences in order", []int{3, 1, 3, 2, 1, 4, 2}, []int{3, 1, 2, 4}, true},
		{"both signs side by side", []int{1, -1}, nil, false},
		{"both signs far apart", []int{-4, 1, 2, 3, 2, 4}, nil, false},
		{"both signs behind duplicates", []int{2, 2, -2}, nil, false},
		{"all variables", []int{12, -11, 10, -9, 8, -7, 6, -5, 4, -3, 2, -1}, []int{12, -11, 10, -9, 8, -7, 6, -5, 4, -3, 2, -1}, true},
		{"40 literals", twenty, []int{7, -3}, true},
		{"41 literals", append(slices.Clone(twenty), 7), nil, false},
		{"41 literals with both signs", append(slices.Clone(twenty), -7), nil, false},
		{"40 literals with both signs", append(slices.Clone(twenty[:39]), 3), nil, false},
		{"80 literals", slices.Concat(twenty, twenty), nil, false},
		{"the literal 0", []int{0}, nil, false},
		{"the literal 0 behind others", []int{1, 2, 0}, nil, false},
		{"the variable 12", []int{-12, -12}, []int{-12}, true},
		{"the variable 13", []int{1, 13}, nil, false},
		{"the variable 13 negated", []int{-13, 1}, nil, false},
	}
	for _, r := range rows {
		if got, ok := impl.CleanClause(r.c); !slices.Equal(got, r.want) || ok != r.ok {
			t.Errorf("%s: %v, %t, want %v, %t", r.name, got, ok, r.want, r.ok)
		}
		checkClean(t, r.c)
	}
}

func TestCleanClauseOfLists(t *testing.T) {
	g := lcg(54)
	for range 30000 {
		signs := someClause(&g, 12, 1+g.below(12))
		c := make([]int, g.below(44))
		for i := range c {
			c[i] = signs[g.below(len(signs))]
		}
		checkClean(t, c)
		if len(c) == 0 {
			continue
		}
		at := g.below(len(c))
		c[at] = -c[at]
		checkClean(t, c)
		c[at] = []int{0, 13, -13, math.MinInt, math.MaxInt}[g.below(5)]
		checkClean(t, c)
	}
}

// badVars are numbers of variables that there are not.
var badVars = []int{math.MinInt, math.MinInt + 1, -1 << 32, -13, -12, -2, -1, 13, 14, 64, 1 << 32, 1<<32 + 2, math.MaxInt}

// A taker checks a chapter's functions for clauses that they have to take, and
// a refuser for clauses that are not valid, whatever is beside them.
type (
	taker   func(t *testing.T, vars int, l [][]int)
	refuser func(t *testing.T, name string, vars int, l [][]int)
)

// checkVariableLimits is promise 19 for numbers of variables, and for clauses
// of variables up to the last one and beyond it.
func checkVariableLimits(t *testing.T, take taker, refuse refuser) {
	t.Helper()
	for _, vars := range badVars {
		for _, l := range [][][]int{nil, {}, {{}}, {nil, {}}, {{1}}, {{1, 2}, {-1}}, {{1}, {-1}}} {
			refuse(t, fmt.Sprintf("%v of %d variables", l, vars), vars, l)
		}
	}
	for vars := range 13 {
		take(t, vars, nil)
		take(t, vars, [][]int{{}})
		for x := -13; x <= 13; x++ {
			if x != 0 && max(x, -x) <= vars {
				take(t, vars, [][]int{{x}})
				take(t, vars, [][]int{{x}, {-x}})
			} else {
				refuse(t, fmt.Sprintf("%d of %d variables", x, vars), vars, [][]int{{x}})
			}
		}
	}
}

// checkClauseLimits is promise 19 for numbers of clauses: 60 are accepted, 61
// are not, whatever they are.
func checkClauseLimits(t *testing.T, take taker, refuse refuser) {
	t.Helper()
	for _, c := range [][]int{{}, {1}, {-2, 1}, {1, 2, 3}} {
		for _, count := range []int{0, 1, 59, 60} {
			take(t, 3, slices.Repeat([][]int{c}, count))
		}
		for _, count := range []int{61, 62, 120, 1000} {
			refuse(t, fmt.Sprintf("%v, %d times", c, count), 3, slices.Repeat([][]int{c}, count))
		}
	}
}

// checkLiteralLimits is promise 19 for a clause that is not valid: it spoils
// the list wherever it is.
func checkLiteralLimits(t *testing.T, take taker, refuse refuser) {
	t.Helper()
	for name, c := range badClauses() {
		for _, l := range [][][]int{{c}, {c, {1}}, {{1}, c}, {{}, {2}, c, {1, 2}}, append(slices.Repeat([][]int{{-1}}, 59), c)} {
			refuse(t, name, 12, l)
		}
	}
	twelve := []int{12, -11, 10, -9, 8, -7, 6, -5, 4, -3, 2, -1}
	take(t, 12, [][]int{twelve, {12}, twelve})
	for vars := range 12 {
		refuse(t, "12 literals", vars, [][]int{twelve})
		refuse(t, "a literal beyond", vars, [][]int{{}, {vars + 1}})
		refuse(t, "a negation beyond", vars, [][]int{{-vars - 1}})
	}
}

// Promise 19: what is just valid is taken, and what is just not is refused.
func TestClausesAtTheLimits(t *testing.T) {
	checkVariableLimits(t, wantAcceptedClauses, wantZeroClauses)
	checkClauseLimits(t, wantAcceptedClauses, wantZeroClauses)
	checkLiteralLimits(t, wantAcceptedClauses, wantZeroClauses)
}

// The last of 60 clauses counts as the first does.
func TestLastOfSixtyClauses(t *testing.T) {
	l := append(slices.Repeat([][]int{{2, 3}}, 59), []int{-3})
	if p, bad, ok := impl.Propagate(3, l, nil); !slices.Equal(p, []int{-3, 2}) || bad || !ok {
		t.Errorf("Propagate = %v, %t, %t", p, bad, ok)
	}
	if n, ok := impl.CountModels(3, l); n != 2 || !ok {
		t.Errorf("CountModels = %d, %t", n, ok)
	}
	if r, ok := impl.Reduce(3, l, []int{2}); !sameClauses(r, [][]int{{-3}}) || !ok {
		t.Errorf("Reduce = %v, %t", r, ok)
	}
}

// badClauses are no clauses of 12 variables.
func badClauses() map[string][]int {
	twelve := []int{1, -2, 3, -4, 5, -6, 7, -8, 9, -10, 11, -12}
	return map[string][]int{
		"0":                             {0},
		"0 behind others":               {1, 2, 0},
		"0 ahead of others":             {0, 1},
		"the variable 13":               {13},
		"the variable 13 negated":       {1, -13},
		"a far variable":                {1 << 32, 1},
		"a variable that wraps around":  {1<<32 + 1},
		"the least integer":             {math.MinInt},
		"the least integer and another": {2, math.MinInt, 1},
		"the next integer":              {math.MinInt + 1},
		"the greatest integer":          {math.MaxInt},
		"a literal twice":               {1, 1},
		"a literal twice, far apart":    {4, 1, 2, 3, 4},
		"a negation twice":              {-3, 2, -3},
		"both signs":                    {1, -1},
		"both signs, reversed":          {-1, 1},
		"both signs, far apart":         {12, 1, 2, -12},
		"13 literals, one twice":        append(slices.Clone(twelve), 1),
		"13 literals, both signs":       append(slices.Clone(twelve), 12),
		"13 literals, variable 13":      append(slices.Clone(twelve), 13),
		"13 literals, 0":                append(slices.Clone(twelve), 0),
		"24 literals":                   slices.Concat(twelve, twelve),
		"many literals":                 slices.Repeat([]int{2}, 5000),
	}
}

// Promise 19: given literals that are not valid.
func TestBadGivenLiterals(t *testing.T) {
	lists := [][][]int{nil, {{}}, {{1}}, {{1, 2}, {-1}}, {{-2}, {1, 2}}}
	for _, given := range badClauses() {
		for _, l := range lists {
			wantZeroGiven(t, 12, l, given)
		}
	}
	for _, given := range [][]int{{3}, {-3}, {1, 2, 3}, {1, 2, -1}, {0}} {
		for _, l := range lists {
			wantZeroGiven(t, 2, l, given)
		}
	}
	for _, given := range [][]int{{1}, {-1}, {0}, {1, -1}} {
		wantZeroGiven(t, 0, nil, given)
	}
	twelve := []int{12, -11, 10, -9, 8, -7, 6, -5, 4, -3, 2, -1}
	if p, bad, ok := impl.Propagate(12, lists[3], twelve); !slices.Equal(p, twelve) || bad || !ok {
		t.Errorf("Propagate from 12 literals = %v, %t, %t", p, bad, ok)
	}
	if p, bad, ok := impl.Propagate(12, lists[4], twelve); !slices.Equal(p, twelve) || !bad || !ok {
		t.Errorf("Propagate from 12 literals = %v, %t, %t", p, bad, ok)
	}
	if r, ok := impl.Reduce(12, lists[4], twelve); !sameClauses(r, [][]int{{}}) || !ok {
		t.Errorf("Reduce by 12 literals = %v, %t", r, ok)
	}
}

// Promise 19: a model has a bool for each variable, not fewer and not more.
func TestBadModels(t *testing.T) {
	g := lcg(55)
	for vars := range 13 {
		for _, l := range [][][]int{nil, {{}}, {someClause(&g, vars, 2)}} {
			for _, size := range []int{0, vars - 1, vars, vars + 1, vars + 2, 13, 100} {
				if size < 0 {
					continue
				}
				model := make([]bool, size)
				h, ok := impl.HoldsAll(vars, l, model)
				if size == vars && (!ok || h != wantHoldsAll(l, model)) {
					t.Errorf("HoldsAll(%d, %v, %v) = %t, %t", vars, l, model, h, ok)
				}
				if size != vars && (h || ok) {
					t.Errorf("HoldsAll(%d, %v) of a model of %d = %t, %t", vars, l, size, h, ok)
				}
			}
			if h, ok := impl.HoldsAll(vars, l, nil); vars > 0 && (h || ok) {
				t.Errorf("HoldsAll(%d, %v, nil) = %t, %t", vars, l, h, ok)
			}
		}
	}
}

// someOddClauses returns clauses and given literals, one of which is likely to
// be the odd number that it returns too.
func someOddClauses(g *lcg) (vars int, l [][]int, given []int, odd int) {
	vars = g.below(14) - 1
	l = someClauses(g, max(vars, 0), g.below(5))
	given = someClause(g, max(vars, 0), g.below(4))
	odd = oddNumbers[g.below(len(oddNumbers))]
	if g.below(2) == 0 {
		odd = g.below(28) - 14
	}
	switch at := g.below(len(l) + 1); {
	case at < len(l) && len(l[at]) > 0:
		l[at][g.below(len(l[at]))] = odd
	case len(given) > 0:
		given[g.below(len(given))] = odd
	}
	return vars, l, given, odd
}

// Promise 19: the functions answer for every number in every place.
func TestClausesWithOddNumbers(t *testing.T) {
	g := lcg(56)
	for range 20000 {
		vars, l, given, odd := someOddClauses(&g)
		checkClauses(t, vars, l, given)
		checkClean(t, given)
		a, b := given, someClause(&g, 12, 1+g.below(4))
		checkResolve(t, a, b, odd)
		checkResolve(t, b, a, odd)
		if len(a) > 0 && a[0] != math.MinInt {
			b[0] = -a[0]
			checkResolve(t, a, b, a[0])
		}
		checkClauses(t, oddNumbers[g.below(len(oddNumbers))], l, given)
	}
}

// withRoom returns an equal list that has numbers behind its length.
func withRoom(c []int) []int {
	return append(slices.Clone(c), 0, 1, -1, 99)[:len(c)]
}

func roomBehind(c []int) []int {
	return c[:len(c)+4]
}

// A case of the chapter's functions whose lists all have room behind them.
type clauseCase struct {
	vars  int
	l     [][]int
	given []int
	model []bool
}

func someClauseCase(g *lcg) clauseCase {
	vars := g.below(13)
	c := clauseCase{vars: vars, given: withRoom(someClause(g, vars, g.below(4)))}
	l := someClauses(g, vars, g.below(12))
	for i := range l {
		l[i] = withRoom(l[i])
	}
	c.l = append(l, []int{0}, []int{})[:len(l)]
	model := make([]bool, vars, vars+2)
	for i := range model {
		model[i] = g.below(2) == 0
	}
	c.model = append(model, true, false)[:vars]
	return c
}

// all returns every list of the case with its room.
func (c clauseCase) all() ([][]int, []bool) {
	lists := [][]int{slices.Clone(roomBehind(c.given))}
	for _, x := range c.l {
		lists = append(lists, slices.Clone(roomBehind(x)))
	}
	lists = append(lists, cloneClauses(c.l[:len(c.l)+2])...)
	return lists, slices.Clone(c.model[:len(c.model)+2])
}

// Promise 19: no argument is changed, up to the capacity of its memory, and
// what is behind the length of a list does not count.
func TestClausesAreNotChanged(t *testing.T) {
	g := lcg(57)
	for range 4000 {
		c := someClauseCase(&g)
		lists, model := c.all()
		checkClauses(t, c.vars, c.l, c.given)
		if h, ok := impl.HoldsAll(c.vars, c.l, c.model); h != wantHoldsAll(c.l, c.model) || !ok {
			t.Fatalf("HoldsAll(%d, %v, %v) = %t, %t", c.vars, c.l, c.model, h, ok)
		}
		if c.vars < 9 {
			impl.CountModels(c.vars, c.l)
		}
		for _, x := range c.l {
			checkClean(t, x)
			for _, y := range c.l {
				for _, v := range x {
					checkResolve(t, x, y, v)
				}
			}
		}
		now, modelNow := c.all()
		if !sameClauses(now, lists) || !slices.Equal(modelNow, model) {
			t.Fatalf("%v, %v became %v, %v", lists, model, now, modelNow)
		}
	}
}

func spoilList(c []int) {
	for i := range c[:cap(c)] {
		c[:cap(c)][i] = -7
	}
}

// Promise 19: a list with duplicates is neither changed nor returned, up to the
// capacity of its memory.
func TestCleanClauseIsNewMemory(t *testing.T) {
	for _, c := range [][]int{{1}, {2, 1, 2}, {3, 3, 3}, {-1, 2, -1, 2, 5}, slices.Repeat([]int{7, -3}, 20), {1, 2, -1}} {
		c = withRoom(c)
		before := slices.Clone(roomBehind(c))
		checkClean(t, c)
		checkNew(t, func() []int { r, _ := impl.CleanClause(c); return r }, -7)
		if !slices.Equal(roomBehind(c), before) {
			t.Errorf("%v became %v", before, roomBehind(c))
		}
	}
}

// Promise 19: results share no memory with an argument or with one another.
func TestClausesAreNewMemory(t *testing.T) {
	g := lcg(58)
	for range 4000 {
		c := someClauseCase(&g)
		lists, _ := c.all()
		checkNew(t, func() []int { p, _, _ := impl.Propagate(c.vars, c.l, c.given); return p }, -7)
		checkNew(t, func() []int { p, _, _ := impl.Propagate(c.vars, nil, c.given); return p }, -7)
		for _, x := range c.l {
			checkNew(t, func() []int { p, _ := impl.CleanClause(x); return p }, -7)
			if len(x) > 0 && x[0] > 0 {
				checkNew(t, func() []int { p, _ := impl.Resolve(x, []int{-x[0]}, x[0]); return p }, -7)
			}
			if len(x) > 0 && x[0] < 0 {
				checkNew(t, func() []int { p, _ := impl.Resolve([]int{-x[0]}, x, -x[0]); return p }, -7)
			}
		}
		checkApart(t, func() [][]int { r, _ := impl.Reduce(c.vars, c.l, c.given); return r })
		if now, _ := c.all(); !sameClauses(now, lists) {
			t.Fatalf("a result shares memory: %v became %v", lists, now)
		}
	}
}

// checkApart overwrites each list of a result up to its capacity and looks at
// the other ones, then overwrites the list of them.
func checkApart(t *testing.T, call func() [][]int) {
	t.Helper()
	want := cloneClauses(call())
	for i := range want {
		got := call()
		spoilList(got[i])
		for j := range want {
			if j != i && !slices.Equal(got[j], want[j]) {
				t.Fatalf("the clauses %d and %d of %v share memory", i, j, want)
			}
		}
	}
	got := call()
	for i := range got[:cap(got)] {
		got[:cap(got)][i] = []int{-7}
	}
	if again := call(); !sameClauses(again, want) {
		t.Fatalf("two results share memory: %v became %v", want, again)
	}
}

// Promise 19: clauses of an argument may share their memory; the reduced ones
// do not.
func TestReduceOfSharedClauses(t *testing.T) {
	c := []int{1, 2, -3}
	whole := []int{4, 1, 5, -2}
	l := [][]int{c, c, whole[:2], whole[1:], whole, c[:2], c[:0]}
	for _, given := range [][]int{nil, {-1}, {3}, {6}} {
		checkClauses(t, 6, l, given)
		checkApart(t, func() [][]int { r, _ := impl.Reduce(6, l, given); return r })
	}
	if !slices.Equal(c, []int{1, 2, -3}) || !slices.Equal(whole, []int{4, 1, 5, -2}) {
		t.Errorf("the clauses became %v and %v", c, whole)
	}
}

// Promise 19: both arguments of Resolve may be the same memory, and so may the
// clauses and the given literals.
func TestArgumentsThatAreTheSame(t *testing.T) {
	c := withRoom([]int{1, -2, 3})
	if r, ok := impl.Resolve(c, c, 1); len(r) != 0 || ok {
		t.Errorf("Resolve of a clause with itself = %v, %t", r, ok)
	}
	both := []int{1, 2, -1}
	if r, ok := impl.Resolve(both[:2], both[1:], 1); !slices.Equal(r, []int{2}) || !ok {
		t.Errorf("Resolve of overlapping clauses = %v, %t", r, ok)
	}
	if !slices.Equal(both, []int{1, 2, -1}) {
		t.Errorf("the clauses became %v", both)
	}
	checkClauses(t, 3, [][]int{c, c}, c)
	checkClauses(t, 3, [][]int{c, c}, c[1:])
	if !slices.Equal(roomBehind(c), []int{1, -2, 3, 0, 1, -1, 99}) {
		t.Errorf("the clause became %v", roomBehind(c))
	}
}
