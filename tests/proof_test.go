package tests

import (
	"math"
	"slices"
	"testing"

	"loop.example/g00605/impl"
)

func wantAtOnce(l [][]int, c []int) bool {
	_, falsified := wantPropagate(l, wantNegated(c))
	return falsified
}

func wantGoodProof(vars int, l, proof [][]int) bool {
	good := wantGoodClauses(vars, l) && len(proof) <= 300
	for _, c := range proof {
		good = good && wantGoodClause(vars, c)
	}
	return good
}

func wantCheck(l, proof [][]int) (bool, int) {
	for i, c := range proof {
		if !wantAtOnce(slices.Concat(l, proof[:i]), c) {
			return false, i
		}
	}
	n := len(proof)
	return n > 0 && len(proof[n-1]) == 0, n
}

func clausesAt(l [][]int, indexes []int) [][]int {
	var at [][]int
	for _, i := range indexes {
		at = append(at, l[i])
	}
	return at
}

// accepts is for arguments that are valid.
func accepts(t *testing.T, vars int, l, proof [][]int) bool {
	t.Helper()
	accepted, _, ok := impl.CheckProof(vars, l, proof)
	if !ok {
		t.Fatalf("CheckProof(%d, %v, %v) returns false", vars, l, proof)
	}
	return accepted
}

// wantNeeded has a proof of its own for each clause that it tries to remove.
func wantNeeded(t *testing.T, vars int, l, proof [][]int) []int {
	t.Helper()
	var left []int
	for i := range proof {
		left = append(left, i)
	}
	for i := len(proof) - 2; i >= 0; i-- {
		without := slices.Delete(slices.Clone(left), i, i+1)
		if accepts(t, vars, l, clausesAt(proof, without)) {
			left = without
		}
	}
	return left
}

// checkMinimal is for a proof that was trimmed.
func checkMinimal(t *testing.T, vars int, l, trimmed [][]int) {
	t.Helper()
	if !accepts(t, vars, l, trimmed) {
		t.Fatalf("TrimProof of clauses %v returns %v, which is not accepted", l, trimmed)
	}
	for i := range trimmed[1:] {
		if accepts(t, vars, l, slices.Delete(slices.Clone(trimmed), i, i+1)) {
			t.Fatalf("TrimProof of clauses %v returns %v, of which the clause %d is not needed", l, trimmed, i)
		}
	}
}

func wantZeroTrim(t *testing.T, vars int, l, proof [][]int) {
	t.Helper()
	if needed, ok := impl.NeededIn(vars, l, proof); len(needed) != 0 || ok {
		t.Fatalf("NeededIn(%d, %v, %v) = %v, %t", vars, l, proof, needed, ok)
	}
	if trimmed, ok := impl.TrimProof(vars, l, proof); len(trimmed) != 0 || ok {
		t.Fatalf("TrimProof(%d, %v, %v) = %v, %t", vars, l, proof, trimmed, ok)
	}
}

func wantZeroProof(t *testing.T, vars int, l, proof [][]int) {
	t.Helper()
	if accepted, at, ok := impl.CheckProof(vars, l, proof); accepted || at != 0 || ok {
		t.Fatalf("CheckProof(%d, %v, %v) = %t, %d, %t", vars, l, proof, accepted, at, ok)
	}
	wantZeroTrim(t, vars, l, proof)
}

// checkProof compares every function that takes a proof, whether it is valid or
// not, and returns the clauses that are needed if the proof is accepted.
func checkProof(t *testing.T, vars int, l, proof [][]int) []int {
	t.Helper()
	if !wantGoodProof(vars, l, proof) {
		wantZeroProof(t, vars, l, proof)
		return nil
	}
	want, wantAt := wantCheck(l, proof)
	if accepted, at, ok := impl.CheckProof(vars, l, proof); accepted != want || at != wantAt || !ok {
		t.Fatalf("CheckProof(%d, %v, %v) = %t, %d, %t, want %t, %d, true", vars, l, proof, accepted, at, ok, want, wantAt)
	}
	if !want {
		wantZeroTrim(t, vars, l, proof)
		return nil
	}
	left := wantNeeded(t, vars, l, proof)
	if needed, ok := impl.NeededIn(vars, l, proof); !slices.Equal(needed, left) || !ok {
		t.Fatalf("NeededIn(%d, %v, %v) = %v, %t, want %v, true", vars, l, proof, needed, ok, left)
	}
	trimmed, ok := impl.TrimProof(vars, l, proof)
	if !sameClauses(trimmed, clausesAt(proof, left)) || !ok {
		t.Fatalf("TrimProof(%d, %v, %v) = %v, %t, want the clauses %v", vars, l, proof, trimmed, ok, left)
	}
	checkMinimal(t, vars, l, trimmed)
	return left
}

// checkProofByModels is the first half of promise 6, by trying all models.
func checkProofByModels(t *testing.T, vars int, l, proof [][]int) []int {
	t.Helper()
	left := checkProof(t, vars, l, proof)
	if !accepts(t, vars, l, proof) {
		return nil
	}
	eachModel(vars, func(model []bool) {
		if wantHoldsAll(l, model) {
			t.Fatalf("CheckProof(%d, %v, %v) accepts, but %v is a model", vars, l, proof, model)
		}
	})
	return left
}

func checkAtOnce(t *testing.T, vars int, l [][]int, c []int) bool {
	t.Helper()
	is, ok := impl.IsAtOnce(vars, l, c)
	if !wantGoodClauses(vars, l) || !wantGoodClause(vars, c) {
		if is || ok {
			t.Fatalf("IsAtOnce(%d, %v, %v) = %t, %t", vars, l, c, is, ok)
		}
		return false
	}
	_, falsified, propagated := impl.Propagate(vars, l, wantNegated(c))
	if is != falsified || is != wantAtOnce(l, c) || !ok || !propagated {
		t.Fatalf("IsAtOnce(%d, %v, %v) = %t, %t, but Propagate returns %t, %t", vars, l, c, is, ok, falsified, propagated)
	}
	return is
}

// checkAtOnceByModels requires that what follows by unit propagation follows.
func checkAtOnceByModels(t *testing.T, vars int, l [][]int, c []int) {
	t.Helper()
	if checkAtOnce(t, vars, l, c) && !checkFollows(t, vars, l, c) {
		t.Fatalf("IsAtOnce(%d, %v, %v) is true, but the clause does not follow", vars, l, c)
	}
}

// checkProofOf is the second half of promise 6, for clauses that are valid or
// not. It returns the proof.
func checkProofOf(t *testing.T, vars int, l [][]int) [][]int {
	t.Helper()
	want := wantSolution(vars, l)
	none := want.ok && !want.found
	proof, ok := impl.ProofOf(vars, l)
	if refuted, done := impl.RefuteBy(vars, l); refuted != none || done != want.ok {
		t.Fatalf("RefuteBy(%d, %v) = %t, %t, want %t, %t", vars, l, refuted, done, none, want.ok)
	}
	if !none {
		if len(proof) != 0 || ok {
			t.Fatalf("ProofOf(%d, %v) = %v, %t", vars, l, proof, ok)
		}
		return nil
	}
	if !sameClauses(proof, want.learned) || !ok {
		t.Fatalf("ProofOf(%d, %v) = %v, %t, want %v, true", vars, l, proof, ok, want.learned)
	}
	if !accepts(t, vars, l, proof) {
		t.Fatalf("ProofOf(%d, %v) = %v, which CheckProof does not accept", vars, l, proof)
	}
	return proof
}

// eightClauses have no model, and a clause is unit only if two variables are
// assigned.
func eightClauses() [][]int {
	return [][]int{{1, 2, 3}, {1, 2, -3}, {1, -2, 3}, {1, -2, -3}, {-1, 2, 3}, {-1, 2, -3}, {-1, -2, 3}, {-1, -2, -3}}
}

func TestIsAtOnceValues(t *testing.T) {
	l := [][]int{{1, 2}, {-1}}
	chain := [][]int{{-3, 4}, {-2, 3}, {-1, 2}}
	twelve := []int{1, 2, 3, 4, 5, 6, 7, 8, 9, 10, 11, 12}
	rows := []struct {
		name string
		vars int
		l    [][]int
		c    []int
		want bool
	}{
		{"the example", 2, l, []int{2}, true},
		{"a clause of the list", 2, l, []int{1, 2}, true},
		{"the last clause of the list", 2, l, []int{-1}, true},
		{"a clause of the list in another order", 2, l, []int{2, 1}, true},
		{"a weaker clause", 3, l, []int{-3, -1}, true},
		{"a stronger clause", 3, [][]int{{1, 2}}, []int{1}, false},
		{"the clause of the other signs", 3, [][]int{{1, 2}}, []int{-1, -2}, false},
		{"a clause that is false in every model", 2, l, []int{1}, false},
		{"a resolvent", 3, [][]int{{1, 2}, {-1, 3}}, []int{2, 3}, true},
		{"the ends of a chain", 4, chain, []int{-1, 4}, true},
		{"a part of the ends", 4, chain, []int{4}, false},
		{"the ends exchanged", 4, chain, []int{1, -4}, false},
		{"follows by cases, not at once", 3, eightClauses()[:4], []int{1}, false},
		{"half of the cases", 3, eightClauses()[:4], []int{1, 2}, true},
		{"the other half of the cases", 3, eightClauses()[:4], []int{-2, 1}, true},
		{"one of the literals is enough", 3, contradiction(1, 2), []int{-1}, true},
		{"a literal of no clause", 3, contradiction(1, 2), []int{3}, false},
		{"the empty clause of units", 1, [][]int{{1}, {-1}}, nil, true},
		{"the empty clause of units, no nil", 1, [][]int{{1}, {-1}}, []int{}, true},
		{"the empty clause of a chain", 4, append(slices.Clone(chain), []int{1}, []int{-4}), nil, true},
		{"the empty clause of a contradiction", 2, contradiction(1, 2), nil, false},
		{"the empty clause of clauses with a model", 2, l, nil, false},
		{"the empty clause of itself", 2, [][]int{{}}, nil, true},
		{"every clause of the empty clause", 3, [][]int{{1, 2}, {}}, []int{3, -1}, true},
		{"the empty clause as nil", 1, [][]int{nil}, []int{1}, true},
		{"no clause", 2, nil, []int{1, -2}, false},
		{"no clause, the empty clause", 2, nil, nil, false},
		{"no variable", 0, nil, nil, false},
		{"no variable, the empty clause", 0, [][]int{{}}, nil, true},
		{"twelve literals", 12, [][]int{{7}}, twelve, true},
		{"twelve literals that do not follow", 12, [][]int{{-7, 8}}, twelve, false},
	}
	for _, r := range rows {
		if got, ok := impl.IsAtOnce(r.vars, r.l, r.c); got != r.want || !ok {
			t.Errorf("%s: %t, %t, want %t, true", r.name, got, ok, r.want)
		}
		checkAtOnceByModels(t, r.vars, r.l, r.c)
	}
}

func TestCheckProofValues(t *testing.T) {
	two := [][]int{{1}, {-1}}
	four := contradiction(1, 2)
	l := [][]int{{1, 2}, {-1}}
	rows := []struct {
		name  string
		vars  int
		l     [][]int
		proof [][]int
		want  bool
		at    int
	}{
		{"the example", 1, two, [][]int{{1}, {}}, true, 2},
		{"the empty clause alone", 1, two, [][]int{{}}, true, 1},
		{"the empty clause as nil", 1, two, [][]int{nil}, true, 1},
		{"with the help of the clause ahead", 2, four, [][]int{{-1}, {}}, true, 2},
		{"without that help", 2, four, [][]int{{}}, false, 0},
		{"help that comes too late", 2, four, [][]int{{}, {-1}}, false, 0},
		{"help that comes twice too late", 2, four, [][]int{{}, {-1}, {}}, false, 0},
		{"help of several clauses ahead", 3, eightClauses(), [][]int{{1, 2}, {1}, {-1, 2}, {}}, true, 4},
		{"help of a clause far ahead", 3, eightClauses(), [][]int{{-1, 2}, {1, 2}, {1}, {}}, true, 4},
		{"the first clause is wrong", 3, eightClauses(), [][]int{{1}, {-1, 2}, {}}, false, 0},
		{"a clause in the middle is wrong", 3, eightClauses(), [][]int{{1, 2}, {3}, {1}, {-1, 2}, {}}, false, 1},
		{"the last clause is wrong", 3, eightClauses(), [][]int{{1, 2}, {1}, {}}, false, 2},
		{"the last clause is wrong and not empty", 3, eightClauses(), [][]int{{1, 2}, {-2, -3}, {3}}, false, 2},
		{"the first of two wrong clauses", 3, [][]int{{1, 2}}, [][]int{{1, 2}, {1}, {2}, {}}, false, 1},
		{"a clause that follows by cases", 3, eightClauses()[:4], [][]int{{1}}, false, 0},
		{"a clause that follows by cases with help", 3, eightClauses()[:4], [][]int{{1, 2}, {1}}, false, 2},
		{"the last clause is not empty", 2, four, [][]int{{-1}, {2}}, false, 2},
		{"the last clause is a clause of the list", 2, four, [][]int{{-1, -2}}, false, 1},
		{"the empty clause ahead of the end", 1, two, [][]int{{}, {1}}, false, 2},
		{"the empty clause between others", 2, four, [][]int{{-1}, {}, {2, 1}}, false, 3},
		{"every clause follows from the empty one", 3, two, [][]int{{}, {-3, 2}, {}}, true, 3},
		{"the empty clause twice", 2, two, [][]int{{}, {}}, true, 2},
		{"equal clauses", 2, four, [][]int{{-1}, {-1}, {}}, true, 3},
		{"the empty proof", 2, four, nil, false, 0},
		{"the empty proof of units", 1, two, nil, false, 0},
		{"the empty proof, no nil", 1, two, [][]int{}, false, 0},
		{"the empty proof of the empty clause", 1, [][]int{{}}, nil, false, 0},
		{"the empty clause among the clauses", 2, [][]int{{1, 2}, {}, {-1, 2}}, [][]int{{}}, true, 1},
		{"the empty clause among the clauses, any proof", 3, [][]int{{1, 2}, {}}, [][]int{{-3}, {2}, {}}, true, 3},
		{"the empty clause among the clauses, any end", 3, [][]int{{1, 2}, {}}, [][]int{{-3}, {2}}, false, 2},
		{"clauses with a model", 2, l, [][]int{{2}, {}}, false, 1},
		{"clauses with a model, each one follows", 2, l, [][]int{{2}, {-1, 2}, {1, 2}}, false, 3},
		{"no clause", 2, nil, [][]int{{}}, false, 0},
		{"no clause, no proof", 2, nil, nil, false, 0},
		{"no variable", 0, nil, [][]int{{}}, false, 0},
		{"no variable, the empty clause", 0, [][]int{{}}, [][]int{{}}, true, 1},
		{"no variable, no proof", 0, [][]int{{}}, nil, false, 0},
	}
	for _, r := range rows {
		if got, at, ok := impl.CheckProof(r.vars, r.l, r.proof); got != r.want || at != r.at || !ok {
			t.Errorf("%s: %t, %d, %t, want %t, %d, true", r.name, got, at, ok, r.want, r.at)
		}
		checkProofByModels(t, r.vars, r.l, r.proof)
	}
}

func TestNeededInValues(t *testing.T) {
	two := [][]int{{1}, {-1}}
	four := contradiction(1, 2)
	both := append(contradiction(4, 5), eightClauses()...)
	rows := []struct {
		name  string
		vars  int
		l     [][]int
		proof [][]int
		want  []int // nil if the proof is not accepted
	}{
		{"the example", 1, two, [][]int{{1}, {}}, []int{1}},
		{"one clause", 1, two, [][]int{{}}, []int{0}},
		{"both are needed", 2, four, [][]int{{-1}, {}}, []int{0, 1}},
		{"all are needed", 3, eightClauses(), [][]int{{1, 2}, {1}, {-1, 2}, {}}, []int{0, 1, 2, 3}},
		{"all are needed, in another order", 3, eightClauses(), [][]int{{-1, 2}, {1, 2}, {1}, {}}, []int{0, 1, 2, 3}},
		{"one of two equal clauses", 2, four, [][]int{{-1}, {-1}, {}}, []int{0, 2}},
		{"one of three equal clauses", 2, four, [][]int{{2}, {2}, {2}, {}}, []int{0, 3}},
		{"one of equal clauses, others between", 2, four, [][]int{{1, 2}, {-1}, {1, 2}, {-1}, {}}, []int{1, 4}},
		// Either of the first two would do. The second one is removed, and then
		// the first one is needed.
		{"one of two that would do", 2, four, [][]int{{-1}, {1}, {}}, []int{0, 2}},
		{"one of two that would do, reversed", 2, four, [][]int{{1}, {-1}, {}}, []int{0, 2}},
		{"one of two variables that would do", 2, four, [][]int{{-2}, {-1}, {}}, []int{0, 2}},
		// {1, 2} is needed for {1} alone, and {1} is not needed.
		{"needed for one that is not", 5, both, [][]int{{1, 2}, {1}, {-4}, {}}, []int{2, 3}},
		{"needed for one that is not, behind", 5, both, [][]int{{-4}, {1, 2}, {1}, {}}, []int{0, 3}},
		{"needed for one that is not, around", 5, both, [][]int{{1, 2}, {-4}, {1}, {}}, []int{1, 3}},
		// {-1} makes {} follow, but so does {1} with {-1, 2}.
		{"the last but one is not needed", 3, eightClauses(), [][]int{{1, 2}, {1}, {-1, 2}, {-1}, {}}, []int{0, 1, 2, 4}},
		{"a clause of the list", 2, four, [][]int{{1, 2}, {-1}, {}}, []int{1, 2}},
		{"a weaker clause behind", 2, four, [][]int{{-1}, {2, -1}, {}}, []int{0, 2}},
		{"a weaker clause ahead", 3, four, [][]int{{3, -1}, {-1}, {}}, []int{1, 2}},
		{"the empty clause twice", 1, two, [][]int{{}, {}}, []int{1}},
		{"the empty clause three times", 1, two, [][]int{{}, {1}, {}, {}}, []int{3}},
		{"the empty clause ahead of the end", 2, four, [][]int{{-1}, {}, {}}, []int{0, 2}},
		{"a clause that follows from the empty one", 3, four, [][]int{{-1}, {}, {3}, {}}, []int{0, 3}},
		{"the empty clause among the clauses", 2, [][]int{{1, 2}, {}}, [][]int{{2}, {-1}, {}}, []int{2}},
		{"no variable", 0, [][]int{{}}, [][]int{{}, {}, {}}, []int{2}},
		{"the empty proof", 2, four, nil, nil},
		{"the empty proof of the empty clause", 2, [][]int{{}}, [][]int{}, nil},
		{"a clause is wrong", 2, four, [][]int{{}, {-1}, {}}, nil},
		{"a clause that is not needed is wrong", 3, four, [][]int{{3}, {-1}, {}}, nil},
		{"the last clause is wrong", 3, eightClauses(), [][]int{{1, 2}, {1}, {}}, nil},
		{"the last clause is not empty", 2, four, [][]int{{-1}, {}, {2}}, nil},
		{"clauses with a model", 2, [][]int{{1, 2}}, [][]int{{1, 2}}, nil},
		{"no clause", 2, nil, nil, nil},
	}
	for _, r := range rows {
		accepted := r.want != nil
		if got, ok := impl.NeededIn(r.vars, r.l, r.proof); !slices.Equal(got, r.want) || ok != accepted {
			t.Errorf("%s: NeededIn = %v, %t, want %v, %t", r.name, got, ok, r.want, accepted)
		}
		if got, ok := impl.TrimProof(r.vars, r.l, r.proof); !sameClauses(got, clausesAt(r.proof, r.want)) || ok != accepted {
			t.Errorf("%s: TrimProof = %v, %t, want the clauses %v, %t", r.name, got, ok, r.want, accepted)
		}
		checkProofByModels(t, r.vars, r.l, r.proof)
	}
}

func TestProofOfValues(t *testing.T) {
	rows := []struct {
		name  string
		vars  int
		l     [][]int
		proof [][]int // nil if there is a model
	}{
		{"the example", 1, [][]int{{1}, {-1}}, [][]int{{}}},
		{"both values of a variable", 2, contradiction(1, 2), [][]int{{-1}, {}}},
		{"both values of two variables", 3, contradiction(2, 3), [][]int{{-1, -2}, {-1}, {-2}, {}}},
		{"the empty clause", 2, [][]int{{1, 2}, {}}, [][]int{{}}},
		{"no variable, the empty clause", 0, [][]int{nil}, [][]int{{}}},
		{"a model", 2, [][]int{{1, 2}, {-1}}, nil},
		{"a model after a clause is learned", 2, [][]int{{-1, 2}, {-1, -2}}, nil},
		{"no clause", 2, nil, nil},
		{"no variable", 0, nil, nil},
	}
	for _, r := range rows {
		none := r.proof != nil
		if got, ok := impl.ProofOf(r.vars, r.l); !sameClauses(got, r.proof) || ok != none {
			t.Errorf("%s: ProofOf = %v, %t, want %v, %t", r.name, got, ok, r.proof, none)
		}
		if got, ok := impl.RefuteBy(r.vars, r.l); got != none || !ok {
			t.Errorf("%s: RefuteBy = %t, %t, want %t, true", r.name, got, ok, none)
		}
		checkProofOf(t, r.vars, r.l)
	}
}

// Solve gives up where more than 300 clauses would be learned, and then there
// is neither a proof nor an answer.
func TestProofsThatAreLong(t *testing.T) {
	for _, k := range []int{1, 2, 8, 64, 128, 149, 150, 151, 200} {
		for _, odd := range []bool{false, true} {
			count := 2 * k
			if odd {
				count--
			}
			l := noModelTo(k, odd)
			refuted, ok := impl.RefuteBy(11, l)
			if want := count <= 300; refuted != want || ok != want {
				t.Fatalf("RefuteBy of a search with %d clauses = %t, %t", count, refuted, ok)
			}
			proof := checkProofOf(t, 11, l)
			if count <= 300 && len(proof) != count || count > 300 && len(proof) != 0 {
				t.Fatalf("ProofOf of a search with %d clauses has %d", count, len(proof))
			}
			if count <= 300 {
				checkProof(t, 11, l, proof)
			}
			l, _ = modelAt(k, odd)
			if refuted, ok := impl.RefuteBy(12, l); refuted || ok != (count <= 300) {
				t.Fatalf("RefuteBy of a search with %d clauses and a model = %t, %t", count, refuted, ok)
			}
			checkProofOf(t, 12, l)
		}
	}
	for vars := 2; vars <= 12; vars++ {
		if proof := checkProofOf(t, vars, contradiction(vars-1, vars)); (vars < 10) != (len(proof) == 1<<(vars-1)) {
			t.Fatalf("a contradiction of the last of %d variables has a proof of %d clauses", vars, len(proof))
		}
	}
}

// Promise 6 for every set of the clauses of two variables, with every proof of
// at most two clauses.
func TestEverySmallProof(t *testing.T) {
	all := [][]int{{}, {1}, {-1}, {2}, {-2}, {1, 2}, {-1, 2}, {1, -2}, {-1, -2}}
	accepted := 0
	for n := range 1 << len(all) {
		var l [][]int
		for i, c := range all {
			if n>>i&1 == 1 {
				l = append(l, c)
			}
		}
		checkProofByModels(t, 2, l, nil)
		checkProofOf(t, 2, l)
		for _, a := range all {
			checkAtOnceByModels(t, 2, l, a)
			checkProofByModels(t, 2, l, [][]int{a})
			for _, b := range all {
				if len(checkProofByModels(t, 2, l, [][]int{a, b})) > 0 {
					accepted++
				}
			}
		}
	}
	if accepted < 1000 {
		t.Errorf("only %d proofs are accepted", accepted)
	}
}

// Promise 6 for every proof of three clauses of two variables.
func TestEveryProofOfThreeClauses(t *testing.T) {
	lists := [][][]int{contradiction(1, 2), {{1, 2}, {-1}, {-2}}, {{1, 2}, {-1, 2}, {1, -2}}, {{2}, {-1, -2}}}
	all := listed(2)
	for _, l := range lists {
		for _, a := range all {
			for _, b := range all {
				for _, c := range all {
					checkProofByModels(t, 2, l, [][]int{a, b, c})
				}
			}
		}
	}
}

// someProof changes what Solve learned, so that clauses may be missing, in the
// way or wrong.
func someProof(g *lcg, vars int, l [][]int) [][]int {
	proof := cloneClauses(solved(vars, l).learned)
	for range g.below(5) {
		at := g.below(len(proof) + 1)
		switch g.below(6) {
		case 0:
			proof = slices.Insert(proof, at, someClause(g, vars, g.below(vars+1)))
		case 1:
			if at < len(proof) {
				proof = slices.Delete(proof, at, at+1)
			}
		case 2:
			if len(proof) > 0 {
				proof = slices.Insert(proof, at, slices.Clone(proof[g.below(len(proof))]))
			}
		case 3:
			if len(l) > 0 {
				proof = slices.Insert(proof, at, slices.Clone(l[g.below(len(l))]))
			}
		case 4:
			if at < len(proof) && len(proof[at]) > 0 {
				proof[at] = proof[at][1:]
			}
		default:
			proof = append(proof, []int{})
		}
	}
	return proof
}

// Promise 6 for clauses of few variables.
func TestProofsOfFewVariables(t *testing.T) {
	g := lcg(67)
	rejected, unfinished, shorter, long := 0, 0, 0, 0
	for range 8000 {
		vars := g.below(7)
		l := someClauses(&g, vars, g.below(2*vars+2))
		if g.below(4) > 0 {
			l = someLongSearch(&g, vars, g.below(9*vars+1))
		}
		if proof := checkProofOf(t, vars, l); len(proof) > 0 {
			checkProofByModels(t, vars, l, proof)
		}
		proof := someProof(&g, vars, l)
		left := checkProofByModels(t, vars, l, proof)
		switch accepted, at, _ := impl.CheckProof(vars, l, proof); {
		case at < len(proof):
			rejected++
		case !accepted:
			unfinished++
		case len(left) < len(proof):
			shorter++
		}
		if len(left) > 3 {
			long++
		}
		checkAtOnceByModels(t, vars, l, someClause(&g, vars, g.below(vars+1)))
	}
	if rejected < 500 || unfinished < 500 || shorter < 300 || long < 100 {
		t.Errorf("%d proofs are rejected, %d do not end with the empty clause, %d have clauses that are not needed, of %d many are needed", rejected, unfinished, shorter, long)
	}
}

// Promise 6 for up to 60 clauses of up to 12 variables.
func TestProofsOfManyVariables(t *testing.T) {
	g := lcg(68)
	without, long := 0, 0
	for range 400 {
		vars := 6 + g.below(7)
		l := make([][]int, 40+g.below(21))
		for i := range l {
			l[i] = someClause(&g, vars, 3)
		}
		proof := checkProofOf(t, vars, l)
		if n, ok := impl.CountModels(vars, l); (n == 0) != (len(proof) > 0) || !ok {
			t.Fatalf("%v has %d models and the proof %v", l, n, proof)
		}
		checkProof(t, vars, l, someProof(&g, vars, l))
		if len(proof) == 0 {
			continue
		}
		without++
		if len(checkProof(t, vars, l, proof)) > 5 {
			long++
		}
	}
	if without < 50 || long < 30 {
		t.Errorf("%d lists without a model, %d proofs of which much is needed", without, long)
	}
}

// Promise 6 where the clauses of a proof are more than a list of clauses may
// have.
func TestProofsOfManyClauses(t *testing.T) {
	l := append(slices.Repeat([][]int{{1, 2, 3}}, 56), contradiction(1, 2)...)
	for _, ahead := range []int{0, 1, 58, 59, 60, 61, 297, 298} {
		for _, behind := range []int{0, 1, 58, 59, 60, 61, 297, 298} {
			if ahead+behind > 298 {
				continue
			}
			proof := slices.Concat(slices.Repeat([][]int{{1, 2}}, ahead), [][]int{{-1}}, slices.Repeat([][]int{{-1, 3}}, behind), [][]int{{}})
			left := checkProof(t, 3, l, proof)
			if !slices.Equal(left, []int{ahead, len(proof) - 1}) {
				t.Errorf("%d clauses ahead and %d behind: %v is needed", ahead, behind, left)
			}
			proof[ahead] = []int{1, 2}
			if accepted, at, ok := impl.CheckProof(3, l, proof); accepted || at != len(proof)-1 || !ok {
				t.Errorf("%d clauses ahead and %d behind, without {-1}: %t, %d, %t", ahead, behind, accepted, at, ok)
			}
		}
	}
}

func TestProofSizeValues(t *testing.T) {
	twelve := []int{1, 2, 3, 4, 5, 6, 7, 8, 9, 10, 11, 12}
	thirteen := append(slices.Clone(twelve), 13)
	rows := []struct {
		name  string
		proof [][]int
		want  int // -1 if the lists are not valid
	}{
		{"the example", [][]int{{1, 2}, {}}, 2},
		{"no list", nil, 0},
		{"no list, no nil", [][]int{}, 0},
		{"one empty list", [][]int{{}}, 0},
		{"empty lists", [][]int{{}, nil, {}}, 0},
		{"one number", [][]int{{7}}, 1},
		{"lists of all lengths", [][]int{{1}, {1, 2}, {}, {3, 4, 5}}, 6},
		{"numbers that are no literals", [][]int{{0}, {13, -13, math.MinInt}, {math.MaxInt, 1 << 32}}, 6},
		{"numbers that are equal", [][]int{{1, 1, -1}, {0, 0}}, 5},
		{"12 numbers", [][]int{twelve}, 12},
		{"12 numbers, all 0", [][]int{make([]int, 12)}, 12},
		{"13 numbers", [][]int{thirteen}, -1},
		{"13 numbers, all 0", [][]int{make([]int, 13)}, -1},
		{"13 numbers ahead of others", [][]int{thirteen, {}, {1}}, -1},
		{"13 numbers behind others", [][]int{{1}, {}, thirteen}, -1},
		{"13 numbers between others", [][]int{{1}, thirteen, twelve}, -1},
		{"many numbers", [][]int{make([]int, 5000)}, -1},
		{"299 lists", slices.Repeat([][]int{{1}}, 299), 299},
		{"300 lists", slices.Repeat([][]int{{1}}, 300), 300},
		{"300 lists of 12 numbers", slices.Repeat([][]int{twelve}, 300), 3600},
		{"300 lists, the last of 13 numbers", append(slices.Repeat([][]int{{1}}, 299), thirteen), -1},
		{"300 empty lists", make([][]int, 300), 0},
		{"301 lists", slices.Repeat([][]int{{1}}, 301), -1},
		{"301 empty lists", make([][]int, 301), -1},
		{"many lists", make([][]int, 100000), -1},
	}
	for _, r := range rows {
		valid := r.want >= 0
		if got, ok := impl.ProofSize(r.proof); got != max(r.want, 0) || ok != valid {
			t.Errorf("%s: %d, %t, want %d, %t", r.name, got, ok, max(r.want, 0), valid)
		}
	}
}

func TestProofSizeOfLists(t *testing.T) {
	g := lcg(69)
	for range 3000 {
		proof := make([][]int, g.below(310))
		for i := range proof {
			proof[i] = make([]int, g.below(13))
			if g.below(400) == 0 {
				proof[i] = make([]int, 13+g.below(3))
			}
			for j := range proof[i] {
				proof[i][j] = oddNumbers[g.below(len(oddNumbers))]
			}
		}
		want := len(slices.Concat(proof...))
		valid := len(proof) <= 300 && !slices.ContainsFunc(proof, func(c []int) bool { return len(c) > 12 })
		if !valid {
			want = 0
		}
		if got, ok := impl.ProofSize(proof); got != want || ok != valid {
			t.Fatalf("ProofSize(%v) = %d, %t, want %d, %t", proof, got, ok, want, valid)
		}
	}
}

// wantZeroProofs is for clauses that are not valid, whatever is beside them.
func wantZeroProofs(t *testing.T, name string, vars int, l [][]int) {
	t.Helper()
	for _, c := range [][]int{nil, {}, {1}, {-1}, {1, 2}} {
		if is, ok := impl.IsAtOnce(vars, l, c); is || ok {
			t.Errorf("IsAtOnce of %s, %v = %t, %t", name, c, is, ok)
		}
	}
	if proof, ok := impl.ProofOf(vars, l); len(proof) != 0 || ok {
		t.Errorf("ProofOf of %s = %v, %t", name, proof, ok)
	}
	if refuted, ok := impl.RefuteBy(vars, l); refuted || ok {
		t.Errorf("RefuteBy of %s = %t, %t", name, refuted, ok)
	}
	for _, proof := range [][][]int{nil, {}, {{}}, {{1}}, {{1}, {}}, l} {
		wantZeroProof(t, vars, l, proof)
	}
}

func wantAcceptedProofs(t *testing.T, vars int, l [][]int) {
	t.Helper()
	if proof := checkProofOf(t, vars, l); len(proof) > 0 {
		checkProof(t, vars, l, proof)
	}
	for _, proof := range [][][]int{nil, {{}}, {{}, {}}, l} {
		checkProofByModels(t, vars, l, proof)
	}
	checkAtOnceByModels(t, vars, l, nil)
	for _, c := range l {
		if is, ok := impl.IsAtOnce(vars, l, c); !is || !ok {
			t.Errorf("IsAtOnce(%d, %v, %v) = %t, %t, but it is one of the clauses", vars, l, c, is, ok)
		}
	}
}

// Promise 19: what is just valid is taken, and what is just not is refused.
func TestProofsAtTheLimits(t *testing.T) {
	checkVariableLimits(t, wantAcceptedProofs, wantZeroProofs)
	checkClauseLimits(t, wantAcceptedProofs, wantZeroProofs)
	checkLiteralLimits(t, wantAcceptedProofs, wantZeroProofs)
}

// Promise 19: the variables of a proof are those of the clauses.
func TestVariablesOfProofs(t *testing.T) {
	for vars := range 13 {
		for x := -13; x <= 13; x++ {
			if x != 0 && max(x, -x) <= vars {
				checkProof(t, vars, [][]int{{x}, {-x}}, [][]int{{x}, {}})
			} else {
				wantZeroProof(t, vars, [][]int{{}}, [][]int{{x}, {}})
				checkAtOnce(t, vars, [][]int{{}}, []int{x})
			}
		}
	}
}

// The last of 60 clauses counts as the first does.
func TestProofLastOfSixtyClauses(t *testing.T) {
	l := append(slices.Repeat([][]int{{2, 3}}, 58), []int{-3}, []int{-2})
	if is, ok := impl.IsAtOnce(3, l, nil); !is || !ok {
		t.Errorf("IsAtOnce = %t, %t", is, ok)
	}
	if accepted, at, ok := impl.CheckProof(3, l, [][]int{{}}); !accepted || at != 1 || !ok {
		t.Errorf("CheckProof = %t, %d, %t", accepted, at, ok)
	}
	if refuted, ok := impl.RefuteBy(3, l); !refuted || !ok {
		t.Errorf("RefuteBy = %t, %t", refuted, ok)
	}
}

// Promise 19: 300 clauses of a proof are accepted, 301 are not, whether they
// are right or wrong.
func TestNumbersOfProofClauses(t *testing.T) {
	lists := [][][]int{nil, {{}}, {{1}, {-1}}, contradiction(1, 2), slices.Repeat([][]int{{1}, {-1}}, 30)}
	for _, l := range lists {
		for _, c := range [][]int{{}, {1}, {-1}, {2, -1}} {
			for _, count := range []int{299, 300} {
				proof := append(slices.Repeat([][]int{c}, count-1), []int{})
				checkProof(t, 2, l, proof)
				_, _, ok := impl.CheckProof(2, l, proof)
				if !ok {
					t.Errorf("CheckProof rejects %d clauses", count)
				}
			}
			for _, count := range []int{301, 302, 600, 5000} {
				wantZeroProof(t, 2, l, append(slices.Repeat([][]int{c}, count-1), []int{}))
			}
		}
	}
}

// Promise 19: a clause that is not valid spoils the proof wherever it is, also
// behind one at which the check ends, and where everything would follow.
func TestBadProofs(t *testing.T) {
	lists := [][][]int{nil, {{}}, {{1}}, {{1}, {-1}}, contradiction(1, 2)}
	for _, c := range badClauses() {
		for _, l := range lists {
			checkAtOnce(t, 12, l, c)
			for _, proof := range [][][]int{{c}, {c, {}}, {{}, c}, {{}, c, {}}, {{2}, c, {}}, {{-1}, {}, c}, append(slices.Repeat([][]int{{}}, 299), c)} {
				wantZeroProof(t, 12, l, proof)
			}
		}
	}
	for _, c := range [][]int{{3}, {-3}, {1, 2, 3}, {1, 2, -1}, {0}, {2, 12}, {13}, {1, 1}} {
		for _, l := range lists {
			checkAtOnce(t, 2, l, c)
			wantZeroProof(t, 2, l, [][]int{c})
			wantZeroProof(t, 2, l, [][]int{{}, c, {}})
		}
	}
	for _, c := range [][]int{{1}, {-1}, {0}, {1, -1}} {
		checkAtOnce(t, 0, [][]int{{}}, c)
		wantZeroProof(t, 0, [][]int{{}}, [][]int{c, {}})
	}
}

// Promise 19: 12 literals in a clause of a proof are accepted if there are so
// many variables.
func TestProofClausesOfTwelveLiterals(t *testing.T) {
	twelve := []int{12, -11, 10, -9, 8, -7, 6, -5, 4, -3, 2, -1}
	for _, l := range [][][]int{nil, {{}}, {{10}, {-10}}, {twelve}, {{4, 10}, {-4, 10}, {4, -10}, {-4, -10}}} {
		checkAtOnce(t, 12, l, twelve)
		checkProof(t, 12, l, [][]int{twelve, {}})
		checkProof(t, 12, l, [][]int{twelve, {4}, twelve, {}})
		if _, ok := impl.IsAtOnce(12, l, twelve); !ok {
			t.Errorf("IsAtOnce(12, %v, %v) returns false", l, twelve)
		}
		if _, _, ok := impl.CheckProof(12, l, [][]int{twelve}); !ok {
			t.Errorf("CheckProof(12, %v, %v) returns false", l, twelve)
		}
	}
	for vars := range 12 {
		checkAtOnce(t, vars, [][]int{{}}, twelve)
		wantZeroProof(t, vars, [][]int{{}}, [][]int{twelve, {}})
		wantZeroProof(t, vars, [][]int{{}}, [][]int{{vars + 1}, {}})
		wantZeroProof(t, vars, [][]int{{}}, [][]int{{-vars - 1}, {}})
	}
}

// Promise 19: the functions answer for every number in every place.
func TestProofsWithOddNumbers(t *testing.T) {
	g := lcg(70)
	for range 6000 {
		vars, l, c, odd := someOddClauses(&g)
		proof := append(someClauses(&g, max(vars, 0), g.below(4)), c, []int{})
		checkAtOnce(t, vars, l, c)
		checkProof(t, vars, l, proof)
		checkProofOf(t, vars, l)
		strange := oddNumbers[g.below(len(oddNumbers))]
		checkAtOnce(t, strange, l, c)
		checkProof(t, strange, l, proof)
		checkProofOf(t, strange, l)
		if at := g.below(len(proof)); len(proof[at]) > 0 {
			proof[at][g.below(len(proof[at]))] = odd
		}
		checkProof(t, vars, l, proof)
		checkProof(t, vars, [][]int{{}}, proof)
	}
}

// roomyClauses returns equal clauses, all with numbers behind their length, in
// a list with clauses behind its length.
func roomyClauses(l [][]int) [][]int {
	roomy := make([][]int, len(l), len(l)+2)
	for i := range l {
		roomy[i] = withRoom(l[i])
	}
	return append(roomy, []int{0}, []int{})[:len(l)]
}

// wholeMemory returns all of what roomyClauses made.
func wholeMemory(l [][]int) [][]int {
	whole := cloneClauses(l[:len(l)+2])
	for i := range l {
		whole[i] = slices.Clone(roomBehind(l[i]))
	}
	return whole
}

// someRoomyProof returns a proof that is likely to be accepted.
func someRoomyProof(g *lcg) (vars int, l, proof [][]int) {
	vars = 2 + g.below(6)
	l = roomyClauses(someLongSearch(g, vars, 4*vars+g.below(4*vars)))
	return vars, l, roomyClauses(someProof(g, vars, l))
}

// Promise 19: no argument is changed, up to the capacity of its memory, and
// what is behind the length of a list does not count.
func TestProofArgumentsAreNotChanged(t *testing.T) {
	g := lcg(71)
	accepted := 0
	for range 1000 {
		vars, l, proof := someRoomyProof(&g)
		c := withRoom(someClause(&g, vars, g.below(4)))
		lBefore, proofBefore, cBefore := wholeMemory(l), wholeMemory(proof), slices.Clone(roomBehind(c))
		if checkProof(t, vars, l, proof) != nil {
			accepted++
		}
		checkProofOf(t, vars, l)
		checkAtOnce(t, vars, l, c)
		if size, ok := impl.ProofSize(proof); size != len(slices.Concat(proof...)) || !ok {
			t.Fatalf("ProofSize(%v) = %d, %t", proof, size, ok)
		}
		if !sameClauses(wholeMemory(l), lBefore) || !sameClauses(wholeMemory(proof), proofBefore) || !slices.Equal(roomBehind(c), cBefore) {
			t.Fatalf("%v, %v, %v became %v, %v, %v", lBefore, proofBefore, cBefore, wholeMemory(l), wholeMemory(proof), roomBehind(c))
		}
	}
	if accepted < 200 {
		t.Errorf("only %d proofs are accepted", accepted)
	}
}

// checkNewProofs overwrites what NeededIn, TrimProof and ProofOf return.
func checkNewProofs(t *testing.T, vars int, l, proof [][]int) {
	t.Helper()
	checkNew(t, func() []int { n, _ := impl.NeededIn(vars, l, proof); return n }, -7)
	checkApart(t, func() [][]int { p, _ := impl.TrimProof(vars, l, proof); return p })
	checkApart(t, func() [][]int { p, _ := impl.ProofOf(vars, l); return p })
}

// Promise 19: results share no memory with an argument or with one another.
func TestProofsAreNewMemory(t *testing.T) {
	g := lcg(72)
	for range 1000 {
		vars, l, proof := someRoomyProof(&g)
		lBefore, proofBefore := wholeMemory(l), wholeMemory(proof)
		checkNewProofs(t, vars, l, proof)
		if !sameClauses(wholeMemory(l), lBefore) || !sameClauses(wholeMemory(proof), proofBefore) {
			t.Fatalf("a result shares memory: %v, %v became %v, %v", lBefore, proofBefore, wholeMemory(l), wholeMemory(proof))
		}
	}
}

// Promise 19: clauses of the arguments may share their memory; those of the
// results do not.
func TestProofsOfSharedClauses(t *testing.T) {
	whole := []int{-1, 2, 1, 2}
	l := eightClauses()
	l[0] = []int{1, 2, 3, 2, -1}
	shared := [][][]int{
		{whole[2:], whole[2:3], whole[:2], whole[:0]},
		{whole[:2], whole[2:], whole[2:3], whole[4:]},
		{l[0][:2], l[0][:1], l[0][3:], l[0][:0]},
		{l[0][:2], l[0][:2], l[0][:1], l[0][3:], l[0][3:], l[0][:0]},
	}
	wholeBefore, before := slices.Clone(whole), cloneClauses(l)
	for _, proof := range shared {
		clauses := slices.Concat([][]int{l[0][:3]}, l[1:], proof[:1])
		if left := checkProof(t, 3, clauses[:8], proof); len(left) != 4 {
			t.Errorf("of %v the clauses %v are needed", proof, left)
		}
		checkNewProofs(t, 3, clauses[:8], proof)
		checkNewProofs(t, 3, clauses, proof)
		for _, c := range proof {
			checkAtOnce(t, 3, clauses, c)
		}
	}
	checkProof(t, 3, l[1:], l[1:])
	checkProof(t, 3, l[1:], l[2:4])
	if !slices.Equal(whole, wholeBefore) || !sameClauses(l, before) {
		t.Errorf("%v, %v became %v, %v", wholeBefore, before, whole, l)
	}
}

// Promise 19: the clauses of a proof may be the list itself.
func TestProofsThatAreTheClauses(t *testing.T) {
	for _, l := range [][][]int{nil, {{}}, {{1}, {-1}, {}}, {{-1}, {1, 2}, {}, {-2}}, contradiction(1, 2), {{1, 2}, {}}} {
		l = roomyClauses(l)
		before := wholeMemory(l)
		checkProofByModels(t, 2, l, l)
		checkNewProofs(t, 2, l, l)
		for i := range l {
			checkProofByModels(t, 2, l[:i], l)
			checkProofByModels(t, 2, l[i:], l[:i])
			checkNewProofs(t, 2, l, l[:i])
		}
		if !sameClauses(wholeMemory(l), before) {
			t.Errorf("%v became %v", before, wholeMemory(l))
		}
	}
}
