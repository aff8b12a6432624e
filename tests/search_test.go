package tests

import (
	"fmt"
	"slices"
	"testing"

	"loop.example/g00605/impl"
)

func wantNegated(literals []int) []int {
	opposite := slices.Clone(literals)
	for i := range opposite {
		opposite[i] *= -1
	}
	return opposite
}

// wantFree returns 0 if no variable is unassigned.
func wantFree(vars int, known []int) int {
	for v := 1; v <= vars; v++ {
		if !slices.Contains(known, v) && !slices.Contains(known, -v) {
			return v
		}
	}
	return 0
}

// wantSolve goes one call deeper with each decision, and each call returns
// when a clause is falsified, so that the last decision is undone first.
func wantSolve(vars int, l [][]int) (found bool, model []bool, learned [][]int, ok bool) {
	if !wantGoodClauses(vars, l) {
		return false, nil, nil, false
	}
	var under func(decided []int) bool
	under = func(decided []int) bool {
		for len(learned) <= 300 {
			known, falsified := wantPropagate(slices.Concat(l, learned), decided)
			if falsified {
				learned = append(learned, wantNegated(decided))
				return false
			}
			v := wantFree(vars, known)
			if v == 0 {
				for v := 1; v <= vars; v++ {
					model = append(model, slices.Contains(known, v))
				}
				return true
			}
			if under(append(slices.Clone(decided), v)) {
				return true
			}
		}
		return false
	}
	found = under(nil)
	if len(learned) > 300 {
		return false, nil, nil, false
	}
	return found, model, learned, true
}

func wantPure(vars int, l [][]int) []int {
	all := slices.Concat(l...)
	var pure []int
	for x := -vars; x <= vars; x++ {
		if slices.Contains(all, x) && !slices.Contains(all, -x) {
			pure = append(pure, x)
		}
	}
	return pure
}

// A solution is what Solve and SolveWith return.
type solution struct {
	found   bool
	model   []bool
	learned [][]int
	ok      bool
}

func (a solution) is(b solution) bool {
	return a.found == b.found && a.ok == b.ok && slices.Equal(a.model, b.model) && sameClauses(a.learned, b.learned)
}

func solved(vars int, l [][]int) solution {
	found, model, learned, ok := impl.Solve(vars, l)
	return solution{found, model, learned, ok}
}

func solvedWith(vars int, l [][]int, given []int) solution {
	found, model, learned, ok := impl.SolveWith(vars, l, given)
	return solution{found, model, learned, ok}
}

func wantSolution(vars int, l [][]int) solution {
	found, model, learned, ok := wantSolve(vars, l)
	return solution{found, model, learned, ok}
}

// checkSolve compares Solve with the other search, and is promise 5 as far as
// no other models need to be tried.
func checkSolve(t *testing.T, vars int, l [][]int) solution {
	t.Helper()
	got, want := solved(vars, l), wantSolution(vars, l)
	if !got.is(want) {
		t.Fatalf("Solve(%d, %v) = %v, want %v", vars, l, got, want)
	}
	if !got.ok {
		return got
	}
	if got.found {
		if h, ok := impl.HoldsAll(vars, l, got.model); !h || !ok {
			t.Fatalf("Solve(%d, %v) finds %v, in which the clauses hold: %t, %t", vars, l, got.model, h, ok)
		}
	}
	for i, c := range got.learned {
		end := i == len(got.learned)-1 && !got.found
		if !wantGoodClause(vars, c) || end != (len(c) == 0) {
			t.Fatalf("Solve(%d, %v) = %v: the learned clause %d", vars, l, got, i)
		}
	}
	if !got.found && len(got.learned) == 0 {
		t.Fatalf("Solve(%d, %v) = %v: no empty clause", vars, l, got)
	}
	return got
}

// checkSolveByModels is promise 5, by trying all models.
func checkSolveByModels(t *testing.T, vars int, l [][]int) solution {
	t.Helper()
	got := checkSolve(t, vars, l)
	if !got.ok {
		t.Fatalf("Solve(%d, %v) gives up", vars, l)
	}
	count := 0
	eachModel(vars, func(model []bool) {
		if !wantHoldsAll(l, model) {
			return
		}
		count++
		if !wantHoldsAll(got.learned, model) {
			t.Fatalf("%v satisfies %v but not what is learned, %v", model, l, got.learned)
		}
	})
	if got.found != (count > 0) {
		t.Fatalf("Solve(%d, %v) = %v, but there are %d models", vars, l, got, count)
	}
	return got
}

// checkSearch compares every function that takes clauses and given literals,
// whether they are valid or not.
func checkSearch(t *testing.T, vars int, l [][]int, given []int) {
	t.Helper()
	checkSolve(t, vars, l)
	pure, ok := impl.PureIn(vars, l)
	if !wantGoodClauses(vars, l) {
		if len(pure) != 0 || ok {
			t.Fatalf("PureIn(%d, %v) = %v, %t", vars, l, pure, ok)
		}
		wantZeroSearchGiven(t, vars, l, given)
		return
	}
	if want := wantPure(vars, l); !slices.Equal(pure, want) || !ok {
		t.Fatalf("PureIn(%d, %v) = %v, %t, want %v", vars, l, pure, ok, want)
	}
	if !wantGoodClause(vars, given) {
		wantZeroSearchGiven(t, vars, l, given)
		return
	}
	known, falsified := wantPropagate(l, given)
	v := wantFree(vars, known)
	if falsified {
		v = 0
	}
	if got, ok := impl.DecideFrom(vars, l, given); got != v || ok != (v != 0) {
		t.Fatalf("DecideFrom(%d, %v, %v) = %d, %t, want %d", vars, l, given, got, ok, v)
	}
	if got, want := solvedWith(vars, l, given), wantSolution(vars, slices.Concat(l, units(given))); !got.is(want) {
		t.Fatalf("SolveWith(%d, %v, %v) = %v, want %v", vars, l, given, got, want)
	}
	opposite := wantSolution(vars, slices.Concat(l, units(wantNegated(given))))
	if f, ok := impl.FollowsFrom(vars, l, given); f != (opposite.ok && !opposite.found) || ok != opposite.ok {
		t.Fatalf("FollowsFrom(%d, %v, %v) = %t, %t, want %v", vars, l, given, f, ok, opposite)
	}
}

// checkFollows compares FollowsFrom with all models.
func checkFollows(t *testing.T, vars int, l [][]int, c []int) bool {
	t.Helper()
	want := true
	eachModel(vars, func(model []bool) {
		if wantHoldsAll(l, model) && !wantHolds(c, model) {
			want = false
		}
	})
	if f, ok := impl.FollowsFrom(vars, l, c); f != want || !ok {
		t.Fatalf("FollowsFrom(%d, %v, %v) = %t, %t, want %t, true", vars, l, c, f, ok, want)
	}
	return want
}

// checkSame compares SameModels with all models, in both orders.
func checkSame(t *testing.T, vars int, a, b [][]int) bool {
	t.Helper()
	want := true
	eachModel(vars, func(model []bool) {
		if wantHoldsAll(a, model) != wantHoldsAll(b, model) {
			want = false
		}
	})
	if s, ok := impl.SameModels(vars, a, b); s != want || !ok {
		t.Fatalf("SameModels(%d, %v, %v) = %t, %t, want %t, true", vars, a, b, s, ok, want)
	}
	if s, ok := impl.SameModels(vars, b, a); s != want || !ok {
		t.Fatalf("SameModels(%d, %v, %v) = %t, %t, want %t, true", vars, b, a, s, ok, want)
	}
	return want
}

func wantZeroSearchGiven(t *testing.T, vars int, l [][]int, given []int) {
	t.Helper()
	if v, ok := impl.DecideFrom(vars, l, given); v != 0 || ok {
		t.Fatalf("DecideFrom(%d, %v, %v) = %d, %t", vars, l, given, v, ok)
	}
	if got := solvedWith(vars, l, given); !got.is(solution{}) {
		t.Fatalf("SolveWith(%d, %v, %v) = %v", vars, l, given, got)
	}
	if f, ok := impl.FollowsFrom(vars, l, given); f || ok {
		t.Fatalf("FollowsFrom(%d, %v, %v) = %t, %t", vars, l, given, f, ok)
	}
}

func wantZeroSame(t *testing.T, name string, vars int, a, b [][]int) {
	t.Helper()
	if s, ok := impl.SameModels(vars, a, b); s || ok {
		t.Errorf("SameModels of %s, first = %t, %t", name, s, ok)
	}
	if s, ok := impl.SameModels(vars, b, a); s || ok {
		t.Errorf("SameModels of %s, second = %t, %t", name, s, ok)
	}
}

// wantZeroSearch is for clauses that are not valid, whatever is beside them.
func wantZeroSearch(t *testing.T, name string, vars int, l [][]int) {
	t.Helper()
	if got := solved(vars, l); !got.is(solution{}) {
		t.Errorf("Solve of %s = %v", name, got)
	}
	if p, ok := impl.PureIn(vars, l); len(p) != 0 || ok {
		t.Errorf("PureIn of %s = %v, %t", name, p, ok)
	}
	for _, given := range [][]int{nil, {}, {1}, {-1}, {1, 2}} {
		wantZeroSearchGiven(t, vars, l, given)
	}
	for _, other := range [][][]int{nil, {{}}, {{1}}, l} {
		wantZeroSame(t, name, vars, l, other)
	}
}

func wantAcceptedSearch(t *testing.T, vars int, l [][]int) {
	t.Helper()
	checkSolveByModels(t, vars, l)
	checkSearch(t, vars, l, nil)
	checkFollows(t, vars, l, nil)
	checkSame(t, vars, l, nil)
}

// contradiction returns clauses of the variables a and b that have no model,
// and of which none is unit before a or b is assigned.
func contradiction(a, b int) [][]int {
	return [][]int{{a, b}, {a, -b}, {-a, b}, {-a, -b}}
}

func TestSearchConstants(t *testing.T) {
	if impl.MaxProof != 300 {
		t.Errorf("MaxProof = %d", impl.MaxProof)
	}
}

// The searches are written out: for each falsified clause the literals that
// were decided at that time, of which the learned clause is the negation.
func TestSearchesByHand(t *testing.T) {
	rows := []struct {
		name   string
		vars   int
		l      [][]int
		undone [][]int
		model  []bool // nil if there is none
	}{
		{"the first example", 2, [][]int{{1, 2}, {-1}}, nil, []bool{false, true}},
		{"the second example", 1, [][]int{{1}, {-1}}, [][]int{{}}, nil},
		{"one unit", 1, [][]int{{-1}}, nil, []bool{false}},
		{"one decision", 1, nil, nil, []bool{true}},
		{"decisions are positive", 3, [][]int{{-1, -2, -3}}, nil, []bool{true, true, false}},
		{"a decision that derives the rest", 3, [][]int{{-1, 2}, {-2, -3}}, nil, []bool{true, true, false}},
		// 1 is undone, and -1 is then derived from the learned clause.
		{"the decision was wrong", 2, [][]int{{-1, 2}, {-1, -2}}, [][]int{{1}}, []bool{false, true}},
		{"both values are wrong", 2, contradiction(1, 2), [][]int{{1}, {}}, nil},
		// 1 has nothing to do with it, and both of its values are tried.
		{"an idle variable ahead", 3, contradiction(2, 3), [][]int{{1, 2}, {1}, {2}, {}}, nil},
		{"two idle variables ahead", 4, contradiction(3, 4),
			[][]int{{1, 2, 3}, {1, 2}, {1, 3}, {1}, {2, 3}, {2}, {3}, {}}, nil},
		{"an idle variable between", 3, contradiction(1, 3), [][]int{{1}, {}}, nil},
		{"an idle variable behind", 3, contradiction(1, 2), [][]int{{1}, {}}, nil},
		// After 4 is undone, -3 is derived again from the clause that was
		// learned before the last one.
		{"all learned clauses are propagated", 5, [][]int{{-3, 5}, {-3, -5}, {-4, 5}, {-4, -5}},
			[][]int{{1, 2, 3}, {1, 2, 4}}, []bool{true, true, false, false, true}},
		// The clauses are about 1, 3 and 4, but 2 was decided last.
		{"the last decision is undone first", 4, [][]int{{-1, -3, 4}, {-1, -3, -4}, {-1, 3, 4}, {-1, 3, -4}},
			[][]int{{1, 2, 3}, {1, 2}, {1, 3}, {1}}, []bool{false, true, true, true}},
		{"a derived variable is not decided", 4, [][]int{{-1, -2}, {-3, 4}, {-3, -4}},
			[][]int{{1, 3}}, []bool{true, false, false, true}},
		{"a unit is not learned from", 3, [][]int{{3}, {-1, -2, -3}, {-1, 2}},
			[][]int{{1}}, []bool{false, true, true}},
		{"an early unit in a search without a model", 4, append(contradiction(3, 4), []int{-1}),
			[][]int{{2, 3}, {2}, {3}, {}}, nil},
		{"a derived literal derives another", 3, [][]int{{-1, -2, -3}, {3, -1}}, nil, []bool{true, false, true}},
		{"no variable is true", 3, [][]int{{-1, 2}, {-1, -2}, {-2, 3}, {-2, -3}, {-3, 1}},
			[][]int{{1}}, []bool{false, false, false}},
		{"a model behind the first half", 3, [][]int{{-1, 2, 3}, {-1, 2, -3}, {-1, -2, 3}, {-1, -2, -3}, {1, -2}},
			[][]int{{1, 2}, {1}}, []bool{false, false, true}},
		{"variables in no clause", 5, [][]int{{-2}, {-4, 2}}, nil, []bool{true, false, true, false, true}},
		{"no clause", 3, nil, nil, []bool{true, true, true}},
		{"no clause, no nil", 2, [][]int{}, nil, []bool{true, true}},
		{"no clause and no variable", 0, nil, nil, []bool{}},
		{"the empty clause alone", 0, [][]int{{}}, [][]int{{}}, nil},
		{"the empty clause twice", 0, [][]int{{}, {}}, [][]int{{}}, nil},
		{"the empty clause of variables", 3, [][]int{{}}, [][]int{{}}, nil},
		{"the empty clause as nil", 2, [][]int{nil}, [][]int{{}}, nil},
		{"the empty clause ahead of others", 3, [][]int{{}, {1}, {-2, 3}}, [][]int{{}}, nil},
		{"the empty clause behind others", 3, [][]int{{1}, {-2, 3}, {}}, [][]int{{}}, nil},
		{"the empty clause between others", 3, [][]int{{1, 2}, {}, {2, 3}}, [][]int{{}}, nil},
	}
	for _, r := range rows {
		want := solution{found: r.model != nil, model: r.model, ok: true}
		for _, decided := range r.undone {
			want.learned = append(want.learned, wantNegated(decided))
		}
		if got := solved(r.vars, r.l); !got.is(want) {
			t.Errorf("%s: %v, want %v", r.name, got, want)
		}
		checkSolveByModels(t, r.vars, r.l)
		checkReplay(t, r.vars, r.l)
	}
}

// checkReplay takes the single steps of a search by the exported functions. It
// needs room for the learned clauses behind the others.
func checkReplay(t *testing.T, vars int, l [][]int) {
	t.Helper()
	s := solved(vars, l)
	if !s.ok || len(l)+len(s.learned) > 60 {
		t.Fatalf("Solve(%d, %v) = %v is not to be replayed", vars, l, s)
	}
	decided := []int{}
	for i := 0; ; {
		all := slices.Concat(l, s.learned[:i])
		known, falsified, ok := impl.Propagate(vars, all, decided)
		if !ok {
			t.Fatalf("Propagate(%d, %v, %v) returns false", vars, all, decided)
		}
		if !falsified {
			v, left := impl.DecideFrom(vars, all, decided)
			if left {
				decided = append(decided, v)
				continue
			}
			if !s.found || i != len(s.learned) || !wantHoldsAll(units(known), s.model) {
				t.Fatalf("Solve(%d, %v) = %v, but %v is a model after %d clauses", vars, l, s, known, i)
			}
			return
		}
		c, ok := impl.LearnFrom(decided)
		if !ok || i == len(s.learned) || !slices.Equal(c, s.learned[i]) {
			t.Fatalf("Solve(%d, %v) = %v, but the clause %d is %v", vars, l, s, i, c)
		}
		i++
		if len(decided) == 0 {
			if s.found || i != len(s.learned) {
				t.Fatalf("Solve(%d, %v) = %v, but the search ends after %d clauses", vars, l, s, i)
			}
			return
		}
		decided = decided[:len(decided)-1]
	}
}

// Promise 5 for all lists of at most two clauses of two variables, in all
// orders, with all given literals.
func TestSearchEveryPairOfSmallClauses(t *testing.T) {
	all := listed(2)
	for _, a := range all {
		for _, b := range all {
			l := [][]int{a, b}
			checkSolveByModels(t, 2, l)
			checkReplay(t, 2, l)
			for _, c := range all {
				checkSearch(t, 2, l, c)
				checkFollows(t, 2, l, c)
				checkSame(t, 2, l, [][]int{c})
			}
		}
	}
}

// Promise 5 for every set of the clauses of two variables, and of those of two
// literals of three variables.
func TestSearchEverySetOfClauses(t *testing.T) {
	small := [][]int{{1}, {-1}, {2}, {-2}, {1, 2}, {-1, 2}, {1, -2}, {-1, -2}}
	var pairs [][]int
	for _, c := range listed(3) {
		if len(c) == 2 && max(c[0], -c[0]) < max(c[1], -c[1]) {
			pairs = append(pairs, c)
		}
	}
	without := 0
	for _, all := range [][][]int{small, pairs} {
		for n := range 1 << len(all) {
			var l [][]int
			for i, c := range all {
				if n>>i&1 == 1 {
					l = append(l, c)
				}
			}
			checkReplay(t, 3, l)
			if !checkSolveByModels(t, 3, l).found {
				without++
			}
		}
	}
	if len(pairs) != 12 || without < 100 {
		t.Errorf("%d pairs, %d sets without a model", len(pairs), without)
	}
}

// someLongSearch returns no units, so that the search begins with decisions,
// and most clauses are about late variables, so that these have to be undone.
func someLongSearch(g *lcg, vars int, count int) [][]int {
	idle := g.below(vars/2 + 1)
	l := make([][]int, count)
	for i := range l {
		if g.below(8) == 0 {
			l[i] = someClause(g, vars, 3)
			continue
		}
		l[i] = someClause(g, vars-idle, 2+g.below(3))
		for j, x := range l[i] {
			if x < 0 {
				l[i][j] = x - idle
			} else {
				l[i][j] = x + idle
			}
		}
	}
	return l
}

// Promise 5 for lists of clauses of few variables.
func TestSearchFewVariables(t *testing.T) {
	g := lcg(60)
	without, many := 0, 0
	for range 6000 {
		vars := g.below(7)
		l := someClauses(&g, vars, g.below(2*vars+2))
		if g.below(3) > 0 {
			l = someLongSearch(&g, vars, g.below(6*vars+1))
		}
		got := checkSolveByModels(t, vars, l)
		if !got.found {
			without++
		}
		if len(got.learned) > 3 {
			many++
		}
		given := someClause(&g, vars, g.below(vars+1))
		checkSearch(t, vars, l, given)
		checkFollows(t, vars, l, given)
		if len(l)+len(got.learned) <= 60 {
			checkReplay(t, vars, l)
		}
	}
	if without < 500 || many < 500 {
		t.Errorf("%d lists without a model, %d searches that learn much", without, many)
	}
}

// Promise 5 for lists of up to 60 clauses of up to 12 variables: with clauses
// of three literals the searches become long.
func TestSearchManyVariables(t *testing.T) {
	g := lcg(61)
	without, longest := 0, 0
	for range 400 {
		vars := 7 + g.below(6)
		l := make([][]int, 30+g.below(31))
		for i := range l {
			l[i] = someClause(&g, vars, 3+g.below(8)/7)
		}
		got := checkSolve(t, vars, l)
		n, ok := impl.CountModels(vars, l)
		if !got.ok || !ok || got.found != (n > 0) {
			t.Fatalf("Solve(%d, %v) = %v, but there are %d models", vars, l, got, n)
		}
		if !got.found {
			without++
		}
		longest = max(longest, len(got.learned))
	}
	if without < 50 || longest < 12 {
		t.Errorf("%d lists without a model, at most %d clauses are learned", without, longest)
	}
}

// In the lists below, the variables 1..8 are the digits of a number, of which
// a variable that is true is the digit 0, so that a search comes to the numbers
// in increasing order. The variable 1 is the first digit.
func digitOf(n int, v int) int {
	return n >> (8 - v) & 1
}

// numberWith returns clauses that leave only the numbers for which no digit
// is on the wrong side of those of k behind equal ones: at least k if the side
// is 1, at most k if it is 0. Each of them contains the literals beside.
func numberWith(k int, side int, beside ...int) [][]int {
	sign := 1 - 2*side
	var l [][]int
	for i := 1; i <= 8; i++ {
		if digitOf(k, i) != side {
			continue
		}
		c := slices.Clone(beside)
		for j := 1; j < i; j++ {
			if digitOf(k, j) != side {
				c = append(c, sign*j)
			}
		}
		l = append(l, append(c, sign*i))
	}
	return l
}

// modelAt returns clauses for which two clauses are learned for each number
// below k, and then the model of k is found. If odd, it is one clause fewer.
func modelAt(k int, odd bool) ([][]int, []bool) {
	l := numberWith(k, 1, -9)
	for _, c := range contradiction(10, 11) {
		l = append(l, append(c, 9))
	}
	model := make([]bool, 12)
	for i := range model {
		model[i] = i >= 8 || digitOf(k, i+1) == 0
	}
	return slices.Concat(l, oddOne(odd)), model
}

// noModelTo returns clauses for which two clauses are learned for each number
// below k, and there is no model. If odd, it is one clause fewer.
func noModelTo(k int, odd bool) [][]int {
	l := slices.Concat(numberWith(k-1, 0), contradiction(10, 11), oddOne(odd))
	return append(l, []int{9})
}

// oddOne makes the variable 10 false for the number 0 without a decision.
func oddOne(odd bool) [][]int {
	if odd {
		return [][]int{{-1, -2, -3, -4, -5, -6, -7, -8, -10}}
	}
	return nil
}

// Clauses for which many clauses are learned: at most 300 are accepted, with
// and without a model.
func TestNumbersOfLearnedClauses(t *testing.T) {
	for _, k := range []int{1, 2, 3, 8, 64, 100, 128, 149, 150, 151, 152, 200, 255} {
		for _, odd := range []bool{false, true} {
			count := 2 * k
			if odd {
				count--
			}
			l, model := modelAt(k, odd)
			checkCount(t, 12, l, model, count)
			checkCount(t, 11, noModelTo(k, odd), nil, count)
		}
	}
}

// checkCount is for a search that learns so many clauses if it is not stopped,
// and ends with the model, or without one if that is nil.
func checkCount(t *testing.T, vars int, l [][]int, model []bool, count int) {
	t.Helper()
	got := solved(vars, l)
	if count > 300 {
		if !got.is(solution{}) {
			t.Fatalf("Solve(%d, %v) = %v, but %d clauses are learned", vars, l, got, count)
		}
		if f, ok := impl.FollowsFrom(vars, l, nil); f || ok {
			t.Fatalf("FollowsFrom(%d, %v, nil) = %t, %t", vars, l, f, ok)
		}
		if got := solvedWith(vars, l, nil); !got.is(solution{}) {
			t.Fatalf("SolveWith(%d, %v, nil) = %v", vars, l, got)
		}
		return
	}
	if !got.ok || got.found != (model != nil) || !slices.Equal(got.model, model) || len(got.learned) != count {
		t.Fatalf("Solve(%d, %v) = %v, with %d clauses, want %d", vars, l, got, len(got.learned), count)
	}
	if f, ok := impl.FollowsFrom(vars, l, nil); f != (model == nil) || !ok {
		t.Fatalf("FollowsFrom(%d, %v, nil) = %t, %t", vars, l, f, ok)
	}
	checkSolve(t, vars, l)
}

// A contradiction of the last variables behind all others is the longest
// search: twice as many clauses are learned for each variable ahead of it.
func TestSearchesThatAreTooLong(t *testing.T) {
	for vars := 2; vars <= 12; vars++ {
		checkCount(t, vars, contradiction(vars-1, vars), nil, 1<<(vars-1))
	}
	l := contradiction(11, 12)
	for size := range 11 {
		given := []int{1, -2, 3, -4, 5, -6, 7, -8, 9, -10}[:size]
		got := solvedWith(12, l, given)
		if size < 3 {
			if !got.is(solution{}) {
				t.Errorf("SolveWith(12, %v, %v) = %v", l, given, got)
			}
			continue
		}
		if got.found || !got.ok || len(got.learned) != 1<<(11-size) {
			t.Errorf("SolveWith(12, %v, %v) = %v, with %d clauses", l, given, got, len(got.learned))
		}
	}
	if f, ok := impl.FollowsFrom(12, l, []int{1, 2}); f || ok {
		t.Errorf("FollowsFrom of a search that is too long = %t, %t", f, ok)
	}
	if f, ok := impl.FollowsFrom(12, l, []int{1, 2, 3}); !f || !ok {
		t.Errorf("FollowsFrom of a shorter search = %t, %t", f, ok)
	}
}

func TestLearnFromValues(t *testing.T) {
	twelve := []int{12, -11, 10, -9, 8, -7, 6, -5, 4, -3, 2, -1}
	rows := []struct {
		name string
		c    []int
		want []int
	}{
		{"the example", []int{1, -2}, []int{-1, 2}},
		{"nil", nil, nil},
		{"no literal", []int{}, nil},
		{"one literal", []int{-12}, []int{12}},
		{"the order is kept", []int{5, -1, 3}, []int{-5, 1, -3}},
		{"twelve literals", twelve, []int{-12, 11, -10, 9, -8, 7, -6, 5, -4, 3, -2, 1}},
	}
	for _, r := range rows {
		if got, ok := impl.LearnFrom(r.c); !slices.Equal(got, r.want) || !ok {
			t.Errorf("%s: %v, %t, want %v, true", r.name, got, ok, r.want)
		}
	}
	for name, c := range badClauses() {
		if got, ok := impl.LearnFrom(c); len(got) != 0 || ok {
			t.Errorf("LearnFrom of %s = %v, %t", name, got, ok)
		}
	}
	for _, c := range listed(3) {
		if got, ok := impl.LearnFrom(c); !slices.Equal(got, wantNegated(c)) || !ok {
			t.Errorf("LearnFrom(%v) = %v, %t", c, got, ok)
		}
	}
}

func TestDecideFromValues(t *testing.T) {
	eleven := []int{1, -2, 3, -4, 5, -6, 7, -8, 9, -10, 11}
	rows := []struct {
		name  string
		vars  int
		l     [][]int
		given []int
		want  int // 0 if there is none
	}{
		{"the example", 2, [][]int{{1, 2}}, nil, 1},
		{"nothing is assigned", 3, nil, nil, 1},
		{"the first variable is given", 3, nil, []int{1}, 2},
		{"the first variable is given as false", 3, nil, []int{-1}, 2},
		{"the first variable is derived", 3, [][]int{{2, 3}, {1}}, nil, 2},
		{"the first variable is derived as false", 3, [][]int{{-1}, {2, 3}}, nil, 2},
		{"given and derived ones are passed", 5, [][]int{{-1, 3}, {-3, -2}}, []int{1}, 4},
		{"a gap between given ones", 4, nil, []int{4, 3, 1}, 2},
		{"the last one is given", 12, nil, []int{-12}, 1},
		{"only the last one is left", 12, nil, eleven, 12},
		{"the clauses are satisfied", 2, [][]int{{1, 2}}, []int{1}, 2},
		{"the first clause has more than two left", 3, [][]int{{3, 2, 1}}, nil, 1},
		{"all are given", 2, [][]int{{1, 2}}, []int{2, -1}, 0},
		{"all are derived", 2, [][]int{{1, 2}, {-1}}, nil, 0},
		{"the rest is derived", 3, [][]int{{-2, -3}, {-1, 2}}, []int{1}, 0},
		{"the last one is derived", 12, [][]int{{-11, 12}}, eleven, 0},
		{"no variable", 0, nil, nil, 0},
		{"no variable, the empty clause", 0, [][]int{{}}, nil, 0},
		{"the empty clause", 3, [][]int{{}}, nil, 0},
		{"the empty clause behind others", 3, [][]int{{1, 2}, {}}, nil, 0},
		{"falsified by the given literals", 4, [][]int{{1, 2}}, []int{-1, -2}, 0},
		{"falsified by derived literals", 4, [][]int{{2}, {-2}}, nil, 0},
		{"falsified with the first one left", 4, [][]int{{2, 3}, {2, -3}}, []int{-2}, 0},
		{"falsified with the last one left", 4, [][]int{{-1, 2}, {-2, 3}, {-3, -1}}, []int{1}, 0},
		{"a contradiction that is not propagated", 3, contradiction(2, 3), nil, 1},
	}
	for _, r := range rows {
		if got, ok := impl.DecideFrom(r.vars, r.l, r.given); got != r.want || ok != (r.want != 0) {
			t.Errorf("%s: %d, %t, want %d", r.name, got, ok, r.want)
		}
		checkSearch(t, r.vars, r.l, r.given)
	}
}

func TestSolveWithValues(t *testing.T) {
	l := [][]int{{1, 2}, {-1}}
	rows := []struct {
		name  string
		vars  int
		l     [][]int
		given []int
		want  solution
	}{
		{"the example", 2, l, []int{1}, solution{learned: [][]int{{}}, ok: true}},
		{"a model has the literal", 2, l, []int{2}, solution{true, []bool{false, true}, nil, true}},
		{"nil", 2, l, nil, solution{true, []bool{false, true}, nil, true}},
		{"no literal", 2, l, []int{}, solution{true, []bool{false, true}, nil, true}},
		{"no clause", 3, nil, []int{-3, -1}, solution{true, []bool{false, true, false}, nil, true}},
		// The literals are clauses and no decisions: nothing is learned from them.
		{"a given literal is not learned from", 3, [][]int{{-1, -2, 3}, {-1, -2, -3}}, []int{1},
			solution{true, []bool{true, false, true}, [][]int{{-2}}, true}},
		{"no model", 3, contradiction(2, 3), []int{-1}, solution{learned: [][]int{{-2}, {}}, ok: true}},
		{"no variable", 0, nil, nil, solution{true, nil, nil, true}},
		{"no variable, the empty clause", 0, [][]int{{}}, nil, solution{learned: [][]int{{}}, ok: true}},
	}
	for _, r := range rows {
		if got := solvedWith(r.vars, r.l, r.given); !got.is(r.want) {
			t.Errorf("%s: %v, want %v", r.name, got, r.want)
		}
		checkSearch(t, r.vars, r.l, r.given)
	}
}

// 60 clauses together with the given literals are accepted, 61 are not.
func TestGivenLiteralsAsClauses(t *testing.T) {
	twelve := []int{12, -11, 10, -9, 8, -7, 6, -5, 4, -3, 2, -1}
	g := lcg(62)
	for size := range 13 {
		given := twelve[:size]
		for _, count := range []int{0, 1, 47, 48, 49, 58, 59, 60, 61} {
			l := make([][]int, count)
			for i := range l {
				l[i] = someClause(&g, 12, 4)
			}
			checkSearch(t, 12, l, given)
			_, _, _, ok := impl.SolveWith(12, l, given)
			_, ok2 := impl.FollowsFrom(12, l, given)
			if want := count+size <= 60; ok != want || ok2 != want {
				t.Errorf("%d clauses, %d given literals: SolveWith returns %t, FollowsFrom %t", count, size, ok, ok2)
			}
		}
	}
}

// The clause of a given literal counts also as the last of 60.
func TestLastGivenLiteral(t *testing.T) {
	l := slices.Repeat([][]int{{1, 2}}, 58)
	want := solution{true, []bool{true, false, true}, nil, true}
	if got := solvedWith(3, l, []int{3, -2}); !got.is(want) {
		t.Errorf("SolveWith = %v, want %v", got, want)
	}
	want = solution{learned: [][]int{{}}, ok: true}
	if got := solvedWith(3, l, []int{-1, -2}); !got.is(want) {
		t.Errorf("SolveWith = %v, want %v", got, want)
	}
	if f, ok := impl.FollowsFrom(3, l, []int{2, 1}); !f || !ok {
		t.Errorf("FollowsFrom = %t, %t", f, ok)
	}
	if f, ok := impl.FollowsFrom(3, l, []int{2, -1}); f || !ok {
		t.Errorf("FollowsFrom = %t, %t", f, ok)
	}
}

func TestFollowsFromValues(t *testing.T) {
	l := [][]int{{1, 2}, {-1}}
	twelve := []int{1, 2, 3, 4, 5, 6, 7, 8, 9, 10, 11, 12}
	rows := []struct {
		name string
		vars int
		l    [][]int
		c    []int
		want bool
	}{
		{"the example", 2, l, []int{2}, true},
		{"a clause of the list", 2, l, []int{-1}, true},
		{"a clause of the list in another order", 2, l, []int{2, 1}, true},
		{"a weaker clause", 3, l, []int{-3, 2}, true},
		{"a clause that is false in every model", 2, l, []int{1}, false},
		{"a clause that is true in one model of two", 3, l, []int{3}, false},
		{"a resolvent", 3, [][]int{{1, 2}, {-1, 3}}, []int{2, 3}, true},
		{"a stronger clause", 3, [][]int{{1, 2}}, []int{1}, false},
		{"by cases", 3, [][]int{{1, 2, 3}, {1, 2, -3}, {1, -2, 3}, {1, -2, -3}}, []int{1}, true},
		{"the empty clause of clauses with a model", 2, l, nil, false},
		{"the empty clause of a contradiction", 2, contradiction(1, 2), []int{}, true},
		{"the empty clause of itself", 1, [][]int{{}}, nil, true},
		{"every clause of a contradiction", 3, contradiction(1, 2), []int{-3}, true},
		{"the empty clause of no clause", 2, nil, nil, false},
		{"a clause of no clause", 2, nil, []int{1, -2}, false},
		{"no variable", 0, nil, nil, false},
		{"no variable, the empty clause", 0, [][]int{{}}, nil, true},
		{"twelve literals", 12, [][]int{{7}}, twelve, true},
		{"twelve literals that do not follow", 12, [][]int{{-7, -8}}, twelve, false},
	}
	for _, r := range rows {
		if got := checkFollows(t, r.vars, r.l, r.c); got != r.want {
			t.Errorf("%s: %t, want %t", r.name, got, r.want)
		}
	}
}

func TestPureInValues(t *testing.T) {
	twelve := []int{12, -11, 10, -9, 8, -7, 6, -5, 4, -3, 2, -1}
	rows := []struct {
		name string
		vars int
		l    [][]int
		want []int
	}{
		{"the example", 2, [][]int{{1, 2}}, []int{1, 2}},
		{"the other clause too", 2, [][]int{{1, 2}, {-1}}, []int{2}},
		{"negative literals first", 4, [][]int{{2, -3, -1}, {4}}, []int{-3, -1, 2, 4}},
		{"only negative literals", 3, [][]int{{-1}, {-3, -2}}, []int{-3, -2, -1}},
		{"a literal in many clauses", 3, [][]int{{3, 1}, {3, -1}, {3}}, []int{3}},
		{"both signs far apart", 3, [][]int{{-2}, {1}, {3}, {2, 1}}, []int{1, 3}},
		{"no pure literal", 2, [][]int{{1, -2}, {-1, 2}}, nil},
		{"variables in no clause", 5, [][]int{{-4}}, []int{-4}},
		{"no clause", 3, nil, nil},
		{"the empty clause", 3, [][]int{{}}, nil},
		{"the empty clause beside others", 3, [][]int{{-2}, {}, {1}}, []int{-2, 1}},
		{"no variable", 0, [][]int{{}}, nil},
		{"twelve literals", 12, [][]int{twelve}, []int{-11, -9, -7, -5, -3, -1, 2, 4, 6, 8, 10, 12}},
		{"twelve literals and one more", 12, [][]int{twelve, {-12}, {11}}, []int{-9, -7, -5, -3, -1, 2, 4, 6, 8, 10}},
		{"pure in the rest only", 2, [][]int{{1}, {-1, 2}, {-2, 1}}, []int{}},
	}
	for _, r := range rows {
		if got, ok := impl.PureIn(r.vars, r.l); !slices.Equal(got, r.want) || !ok {
			t.Errorf("%s: %v, %t, want %v, true", r.name, got, ok, r.want)
		}
	}
}

func TestSameModelsValues(t *testing.T) {
	l := [][]int{{1, 2}, {-1}}
	rows := []struct {
		name string
		vars int
		a, b [][]int
		want bool
	}{
		{"the example", 2, l, [][]int{{-1}, {2}}, true},
		{"the same list", 2, l, l, true},
		{"another order", 3, [][]int{{1, 2}, {-1, 3}, {-2}}, [][]int{{-2}, {3, -1}, {2, 1}}, true},
		{"one clause for two", 2, [][]int{{1, 2}, {1, -2}}, [][]int{{1}}, true},
		{"a clause that follows is added", 3, [][]int{{1, 2}, {-1, 3}}, [][]int{{1, 2}, {-1, 3}, {2, 3}}, true},
		{"one list implies the other", 2, [][]int{{1}}, [][]int{{1, 2}}, false},
		{"a clause is missing", 3, [][]int{{1, 2}, {-1, 3}}, [][]int{{1, 2}}, false},
		{"as many models of the other sign", 1, [][]int{{1}}, [][]int{{-1}}, false},
		{"as many models of another variable", 2, [][]int{{1}}, [][]int{{2}}, false},
		{"as many models, one of them in common", 2, [][]int{{1, 2}, {-1, -2}}, [][]int{{1}}, false},
		{"as many models, all but one in common", 2, [][]int{{1, 2}}, [][]int{{-1, 2}}, false},
		{"no model and no model", 2, contradiction(1, 2), [][]int{{}}, true},
		{"no model and one model", 2, [][]int{{1}, {-1}}, [][]int{{1}, {2}}, false},
		{"no clause and no clause", 3, nil, [][]int{}, true},
		{"no clause and the empty clause", 3, nil, [][]int{{}}, false},
		{"no clause and a clause", 3, nil, [][]int{{1, 2, 3}}, false},
		{"no variable", 0, nil, nil, true},
		{"no variable, the empty clause", 0, nil, [][]int{{}}, false},
		{"no variable, empty clauses", 0, [][]int{{}, nil}, [][]int{{}}, true},
		{"one model of 4096 is missing", 12, nil, [][]int{{1, 2, 3, 4, 5, 6, 7, 8, 9, 10, 11, 12}}, false},
	}
	for _, r := range rows {
		if got := checkSame(t, r.vars, r.a, r.b); got != r.want {
			t.Errorf("%s: %t, want %t", r.name, got, r.want)
		}
	}
}

func TestSameModelsOfLists(t *testing.T) {
	g := lcg(63)
	same := 0
	for range 4000 {
		vars := g.below(5)
		a := someClauses(&g, vars, g.below(5))
		b := cloneClauses(a)
		for i := range b {
			j := i + g.below(len(b)-i)
			b[i], b[j] = b[j], b[i]
			slices.Reverse(b[i])
		}
		if !checkSame(t, vars, a, b) {
			t.Fatalf("%v and %v have the same models", a, b)
		}
		if len(b) > 0 {
			b[g.below(len(b))] = someClause(&g, vars, 1+g.below(2))
		}
		if checkSame(t, vars, a, b) {
			same++
		}
	}
	if same < 400 || same > 3600 {
		t.Errorf("%d of 4000 lists have the same models", same)
	}
}

// 60 clauses together are accepted, 61 are not, however they are shared out.
func TestSameModelsNumbersOfClauses(t *testing.T) {
	for _, count := range []int{0, 1, 29, 30, 31, 59, 60} {
		a := slices.Repeat([][]int{{1, -2}}, count)
		for _, together := range []int{60, 61, 62} {
			b := slices.Repeat([][]int{{-2, 1}}, together-count)
			if together > 60 {
				wantZeroSame(t, fmt.Sprintf("%d and %d clauses", count, len(b)), 2, a, b)
				continue
			}
			checkSame(t, 2, a, b)
		}
	}
	if s, ok := impl.SameModels(2, slices.Repeat([][]int{{1}}, 30), append(slices.Repeat([][]int{{1}}, 29), []int{-2, -1})); s || !ok {
		t.Errorf("the last of 60 clauses is not looked at: %t, %t", s, ok)
	}
}

// Promise 19: what is just valid is taken, and what is just not is refused.
func TestSearchesAtTheLimits(t *testing.T) {
	checkVariableLimits(t, wantAcceptedSearch, wantZeroSearch)
	checkClauseLimits(t, wantAcceptedSearch, wantZeroSearch)
	checkLiteralLimits(t, wantAcceptedSearch, wantZeroSearch)
}

// The last of 60 clauses counts as the first does.
func TestSearchLastOfSixtyClauses(t *testing.T) {
	l := append(slices.Repeat([][]int{{2, 3}}, 59), []int{-3})
	if got, want := solved(3, l), (solution{true, []bool{true, true, false}, nil, true}); !got.is(want) {
		t.Errorf("Solve = %v, want %v", got, want)
	}
	if p, ok := impl.PureIn(3, l); !slices.Equal(p, []int{2}) || !ok {
		t.Errorf("PureIn = %v, %t", p, ok)
	}
	// The learned clauses do not count as clauses of the argument.
	l = append(slices.Repeat([][]int{{5, 6}}, 57), contradiction(5, 6)[1:]...)
	if got := checkSolveByModels(t, 6, l); got.found || len(got.learned) != 32 {
		t.Errorf("Solve = %v", got)
	}
}

// Promise 19: given literals, and clauses that may follow, that are not valid.
func TestSearchBadGivenLiterals(t *testing.T) {
	lists := [][][]int{nil, {{}}, {{1}}, {{1, 2}, {-1}}, {{-2}, {1, 2}}, {{1}, {-1}}}
	for _, given := range badClauses() {
		for _, l := range lists {
			wantZeroSearchGiven(t, 12, l, given)
		}
	}
	for _, given := range [][]int{{3}, {-3}, {1, 2, 3}, {1, 2, -1}, {0}, {2, 12}, {13}} {
		for _, l := range lists {
			wantZeroSearchGiven(t, 2, l, given)
		}
	}
	for _, given := range [][]int{{1}, {-1}, {0}, {1, -1}} {
		wantZeroSearchGiven(t, 0, nil, given)
		wantZeroSearchGiven(t, 0, [][]int{{}}, given)
	}
	twelve := []int{12, -11, 10, -9, 8, -7, 6, -5, 4, -3, 2, -1}
	for _, l := range lists {
		checkSearch(t, 12, l, twelve)
		checkSearch(t, 12, l, nil)
		checkSearch(t, 12, l, []int{})
		wantZeroSearchGiven(t, 11, l, twelve)
	}
}

// Promise 19: the functions answer for every number in every place.
func TestSearchWithOddNumbers(t *testing.T) {
	g := lcg(64)
	for range 8000 {
		vars, l, given, _ := someOddClauses(&g)
		checkSearch(t, vars, l, given)
		checkSearch(t, oddNumbers[g.below(len(oddNumbers))], l, given)
		if c, ok := impl.LearnFrom(given); ok != wantGoodClause(12, given) || ok && !slices.Equal(c, wantNegated(given)) || !ok && len(c) != 0 {
			t.Fatalf("LearnFrom(%v) = %v, %t", given, c, ok)
		}
		other := someClauses(&g, max(vars, 0), g.below(3))
		if s, ok := impl.SameModels(vars, l, other); ok != (wantGoodClauses(vars, l) && wantGoodClauses(vars, other)) || s && !ok {
			t.Fatalf("SameModels(%d, %v, %v) = %t, %t", vars, l, other, s, ok)
		}
	}
}

// Promise 19: no argument is changed, up to the capacity of its memory, and
// what is behind the length of a list does not count.
func TestSearchArgumentsAreNotChanged(t *testing.T) {
	g := lcg(65)
	for range 1500 {
		c, other := someClauseCase(&g), someClauseCase(&g)
		lists, _ := c.all()
		otherLists, _ := other.all()
		checkSearch(t, c.vars, c.l, c.given)
		if got, ok := impl.LearnFrom(c.given); !slices.Equal(got, wantNegated(c.given)) || !ok {
			t.Fatalf("LearnFrom(%v) = %v, %t", c.given, got, ok)
		}
		if vars := max(c.vars, other.vars); vars < 9 {
			checkSame(t, vars, c.l, other.l)
			checkSame(t, vars, c.l, c.l)
		}
		if now, _ := c.all(); !sameClauses(now, lists) {
			t.Fatalf("%v became %v", lists, now)
		}
		if now, _ := other.all(); !sameClauses(now, otherLists) {
			t.Fatalf("%v became %v", otherLists, now)
		}
	}
}

// checkNewSolution overwrites the models and the learned clauses.
func checkNewSolution(t *testing.T, call func() solution) {
	t.Helper()
	for _, mark := range []bool{false, true} {
		checkNew(t, func() []bool { return call().model }, mark)
	}
	checkApart(t, func() [][]int { return call().learned })
}

// Promise 19: results share no memory with an argument or with one another.
func TestSolutionsAreNewMemory(t *testing.T) {
	g := lcg(66)
	learned := 0
	for range 1500 {
		c := someClauseCase(&g)
		if g.below(3) > 0 {
			c.l = someLongSearch(&g, c.vars, g.below(5*c.vars+1))
			for i := range c.l {
				c.l[i] = withRoom(c.l[i])
			}
			c.l = append(c.l, []int{0}, []int{})[:len(c.l)]
		}
		lists, _ := c.all()
		learned += len(solved(c.vars, c.l).learned)
		checkNewSolution(t, func() solution { return solved(c.vars, c.l) })
		checkNewSolution(t, func() solution { return solvedWith(c.vars, c.l, c.given) })
		checkNewSolution(t, func() solution { return solvedWith(c.vars, nil, c.given) })
		checkNew(t, func() []int { p, _ := impl.PureIn(c.vars, c.l); return p }, -7)
		checkNew(t, func() []int { p, _ := impl.LearnFrom(c.given); return p }, -7)
		if now, _ := c.all(); !sameClauses(now, lists) {
			t.Fatalf("a result shares memory: %v became %v", lists, now)
		}
	}
	if learned < 1000 {
		t.Errorf("only %d clauses are learned", learned)
	}
}

// Promise 19: the learned clauses are apart where there are many of them.
func TestManyLearnedClausesAreApart(t *testing.T) {
	for vars := 2; vars <= 8; vars++ {
		l := contradiction(vars-1, vars)
		checkNewSolution(t, func() solution { return solved(vars, l) })
		checkNewSolution(t, func() solution { return solvedWith(vars, l, []int{-1}) })
		if !sameClauses(l, contradiction(vars-1, vars)) {
			t.Fatalf("the clauses became %v", l)
		}
	}
}

// Promise 19: clauses may share their memory with each other and with the
// given literals.
func TestSearchArgumentsThatAreTheSame(t *testing.T) {
	c := withRoom([]int{1, -2, 3})
	for _, given := range [][]int{c, c[1:], c[:1], c[:0]} {
		checkSearch(t, 3, [][]int{c, c}, given)
		checkSearch(t, 3, [][]int{c[:2], c[1:], c[:1]}, given)
		checkNewSolution(t, func() solution { return solvedWith(3, [][]int{c[:2], c[1:]}, given) })
		checkNew(t, func() []int { p, _ := impl.LearnFrom(given); return p }, -7)
	}
	l := [][]int{c, c[:2], c[1:]}
	checkSame(t, 3, l, l)
	checkSame(t, 3, l, l[:1])
	if !slices.Equal(roomBehind(c), []int{1, -2, 3, 0, 1, -1, 99}) {
		t.Errorf("the clause became %v", roomBehind(c))
	}
}
