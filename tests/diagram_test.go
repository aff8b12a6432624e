package tests

import (
	"fmt"
	"math"
	"slices"
	"testing"

	"loop.example/g00605/impl"
)

func wantIndex(model []bool) int {
	index, bit := 0, 1
	for _, b := range model {
		if b {
			index += bit
		}
		bit *= 2
	}
	return index
}

func tableBy(vars int, value func(x []bool) bool) []bool {
	table := make([]bool, 1<<vars)
	eachModel(vars, func(x []bool) { table[wantIndex(x)] = value(x) })
	return table
}

func constantTable(vars int, value bool) []bool {
	return slices.Repeat([]bool{value}, 1<<vars)
}

func wantNot(table []bool) []bool {
	var not []bool
	for _, b := range table {
		not = append(not, !b)
	}
	return not
}

func wantBoth(a, b []bool) []bool {
	var both []bool
	for i := range a {
		both = append(both, a[i] && b[i])
	}
	return both
}

func wantFixed(vars int, table []bool, v int, so bool) []bool {
	return tableBy(vars, func(x []bool) bool {
		fixed := slices.Clone(x)
		fixed[v-1] = so
		return table[wantIndex(fixed)]
	})
}

// wantBuild is the construction of the chapter word for word: it splits the
// table and looks for an equal node in the list.
func wantBuild(v int, table []bool, nodes *[]impl.Node) int {
	if len(table) == 1 {
		if table[0] {
			return 1
		}
		return 0
	}
	var whereFalse, whereTrue []bool
	for i := 0; i < len(table); i += 2 {
		whereFalse = append(whereFalse, table[i])
		whereTrue = append(whereTrue, table[i+1])
	}
	if slices.Equal(whereFalse, whereTrue) {
		return wantBuild(v+1, whereFalse, nodes)
	}
	low := wantBuild(v+1, whereFalse, nodes)
	high := wantBuild(v+1, whereTrue, nodes)
	n := impl.Node{Var: v, Low: low, High: high}
	if !slices.Contains(*nodes, n) {
		*nodes = append(*nodes, n)
	}
	return slices.Index(*nodes, n) + 2
}

func wantDiagram(vars int, table []bool) impl.Diagram {
	d := impl.Diagram{Vars: vars}
	d.Root = wantBuild(1, table, &d.Nodes)
	return d
}

// rows are Var, Low and High of each node.
type rows [][3]int

func (r rows) nodes() []impl.Node {
	var nodes []impl.Node
	for _, x := range r {
		nodes = append(nodes, impl.Node{Var: x[0], Low: x[1], High: x[2]})
	}
	return nodes
}

// A plain diagram is easier to write down.
type plain struct {
	vars int
	rows rows
	root int
}

func (p plain) diagram() impl.Diagram {
	return impl.Diagram{Vars: p.vars, Nodes: p.rows.nodes(), Root: p.root}
}

func sameDiagram(a, b impl.Diagram) bool {
	return a.Vars == b.Vars && a.Root == b.Root && slices.Equal(a.Nodes, b.Nodes)
}

func isZeroDiagram(d impl.Diagram) bool {
	return sameDiagram(d, impl.Diagram{})
}

func cloneDiagram(d impl.Diagram) impl.Diagram {
	d.Nodes = slices.Clone(d.Nodes)
	return d
}

// wantGoodDiagram looks at the nodes and not at the values: none is there twice
// or has equal sides, Var rises towards the constants, and the nodes are in the
// order in which they are completed from the root.
func wantGoodDiagram(d impl.Diagram) bool {
	last := len(d.Nodes) + 1
	if d.Vars < 0 || d.Vars > 6 || d.Root < 0 || d.Root > last {
		return false
	}
	for i, n := range d.Nodes {
		if n.Var < 1 || n.Var > d.Vars || n.Low == n.High || slices.Index(d.Nodes, n) != i {
			return false
		}
		for _, side := range []int{n.Low, n.High} {
			if side < 0 || side > last || side >= 2 && d.Nodes[side-2].Var <= n.Var {
				return false
			}
		}
	}
	return slices.IsSorted(completed(d)) && len(completed(d)) == len(d.Nodes)
}

// completed is for a diagram in which Var rises.
func completed(d impl.Diagram) []int {
	var done []int
	var from func(at int)
	from = func(at int) {
		if at < 2 || slices.Contains(done, at) {
			return
		}
		from(d.Nodes[at-2].Low)
		from(d.Nodes[at-2].High)
		done = append(done, at)
	}
	from(d.Root)
	return done
}

// checkValues compares what is said about the values of a valid diagram.
func checkValues(t *testing.T, d impl.Diagram, table []bool) {
	t.Helper()
	if got, ok := impl.TableOf(d); !slices.Equal(got, table) || !ok {
		t.Fatalf("TableOf(%v) = %v, %t, want %v, true", d, got, ok, table)
	}
	ones := 0
	eachModel(d.Vars, func(model []bool) {
		want := table[wantIndex(model)]
		if got, ok := impl.EvalDiagram(d, model); got != want || !ok {
			t.Fatalf("EvalDiagram(%v, %v) = %t, %t, want %t, true", d, model, got, ok, want)
		}
		if want {
			ones++
		}
	})
	if got, ok := impl.OnesOf(d); got != ones || !ok {
		t.Fatalf("OnesOf(%v) = %d, %t, want %d, true", d, got, ok, ones)
	}
}

// checkDiagram is the first half of promise 7. It returns the diagram.
func checkDiagram(t *testing.T, vars int, table []bool) impl.Diagram {
	t.Helper()
	want := wantDiagram(vars, table)
	d, ok := impl.DiagramOf(vars, table)
	if !sameDiagram(d, want) || !ok {
		t.Fatalf("DiagramOf(%d, %v) = %v, %t, want %v, true", vars, table, d, ok, want)
	}
	if !impl.GoodDiagram(d) || !wantGoodDiagram(d) {
		t.Fatalf("DiagramOf(%d, %v) = %v, which is not valid", vars, table, d)
	}
	checkValues(t, d, table)
	return d
}

// checkResult is for a diagram that is made of others.
func checkResult(t *testing.T, name string, d impl.Diagram, ok bool, vars int, table []bool) {
	t.Helper()
	if want := wantDiagram(vars, table); !sameDiagram(d, want) || !ok || !impl.GoodDiagram(d) {
		t.Fatalf("%s = %v, %t, want %v, true", name, d, ok, want)
	}
	checkValues(t, d, table)
}

func checkNot(t *testing.T, d impl.Diagram, table []bool) {
	t.Helper()
	not, ok := impl.NotOf(d)
	checkResult(t, fmt.Sprintf("NotOf(%v)", d), not, ok, d.Vars, wantNot(table))
	if again, ok := impl.NotOf(not); !sameDiagram(again, d) || !ok {
		t.Fatalf("NotOf(NotOf(%v)) = %v, %t", d, again, ok)
	}
}

func checkFix(t *testing.T, d impl.Diagram, table []bool) {
	t.Helper()
	for v := 1; v <= d.Vars; v++ {
		tested := slices.ContainsFunc(d.Nodes, func(n impl.Node) bool { return n.Var == v })
		for _, so := range []bool{false, true} {
			fixed, ok := impl.FixVar(d, v, so)
			checkResult(t, fmt.Sprintf("FixVar(%v, %d, %t)", d, v, so), fixed, ok, d.Vars, wantFixed(d.Vars, table, v, so))
			if sameDiagram(fixed, d) == tested {
				t.Fatalf("FixVar(%v, %d, %t) = %v", d, v, so, fixed)
			}
			for _, then := range []bool{false, true} {
				if again, ok := impl.FixVar(fixed, v, then); !sameDiagram(again, fixed) || !ok {
					t.Fatalf("FixVar(%v, %d, %t) = %v, %t", fixed, v, then, again, ok)
				}
			}
		}
	}
}

func checkBoth(t *testing.T, a, b impl.Diagram, tableA, tableB []bool) {
	t.Helper()
	both, ok := impl.BothOf(a, b)
	checkResult(t, fmt.Sprintf("BothOf(%v, %v)", a, b), both, ok, a.Vars, wantBoth(tableA, tableB))
	if turned, ok := impl.BothOf(b, a); !sameDiagram(turned, both) || !ok {
		t.Fatalf("BothOf(%v, %v) = %v, %t, but the other way round it is %v", b, a, turned, ok, both)
	}
}

// checkBothWithItself is for a diagram and what is made of it alone.
func checkBothWithItself(t *testing.T, d impl.Diagram, table []bool) {
	t.Helper()
	never := checkDiagram(t, d.Vars, constantTable(d.Vars, false))
	always := checkDiagram(t, d.Vars, constantTable(d.Vars, true))
	not := checkDiagram(t, d.Vars, wantNot(table))
	for _, x := range []struct{ with, want impl.Diagram }{{d, d}, {always, d}, {never, never}, {not, never}} {
		if both, ok := impl.BothOf(d, x.with); !sameDiagram(both, x.want) || !ok {
			t.Fatalf("BothOf(%v, %v) = %v, %t, want %v, true", d, x.with, both, ok, x.want)
		}
		if both, ok := impl.BothOf(x.with, d); !sameDiagram(both, x.want) || !ok {
			t.Fatalf("BothOf(%v, %v) = %v, %t, want %v, true", x.with, d, both, ok, x.want)
		}
	}
}

// checkTable compares every function for the diagram of a table.
func checkTable(t *testing.T, vars int, table []bool) impl.Diagram {
	t.Helper()
	d := checkDiagram(t, vars, table)
	checkNot(t, d, table)
	checkFix(t, d, table)
	checkBothWithItself(t, d, table)
	return d
}

// checkByClauses is for valid clauses of at most 6 variables.
func checkByClauses(t *testing.T, vars int, l [][]int) impl.Diagram {
	t.Helper()
	table := tableBy(vars, func(model []bool) bool {
		holds, ok := impl.HoldsAll(vars, l, model)
		if holds != wantHoldsAll(l, model) || !ok {
			t.Fatalf("HoldsAll(%d, %v, %v) = %t, %t", vars, l, model, holds, ok)
		}
		return holds
	})
	d, ok := impl.ByClauses(vars, l)
	checkResult(t, fmt.Sprintf("ByClauses(%d, %v)", vars, l), d, ok, vars, table)
	return d
}

func TestDiagramConstants(t *testing.T) {
	if impl.MaxDeep != 6 {
		t.Errorf("MaxDeep = %d", impl.MaxDeep)
	}
}

func TestDiagramsByHand(t *testing.T) {
	for _, x := range []struct {
		name  string
		vars  int
		value func(x []bool) bool
		want  rows
	}{
		{"and", 2, func(x []bool) bool { return x[0] && x[1] }, rows{{2, 0, 1}, {1, 0, 2}}},
		{"or", 2, func(x []bool) bool { return x[0] || x[1] }, rows{{2, 0, 1}, {1, 2, 1}}},
		{"neither", 2, func(x []bool) bool { return !x[0] && !x[1] }, rows{{2, 1, 0}, {1, 2, 0}}},
		{"different", 2, func(x []bool) bool { return x[0] != x[1] }, rows{{2, 0, 1}, {2, 1, 0}, {1, 2, 3}}},
		{"equal", 2, func(x []bool) bool { return x[0] == x[1] }, rows{{2, 1, 0}, {2, 0, 1}, {1, 2, 3}}},
		{"1 implies 2", 2, func(x []bool) bool { return !x[0] || x[1] }, rows{{2, 0, 1}, {1, 1, 2}}},
		{"2 implies 1", 2, func(x []bool) bool { return !x[1] || x[0] }, rows{{2, 1, 0}, {1, 2, 1}}},
		{"the only variable", 1, func(x []bool) bool { return x[0] }, rows{{1, 0, 1}}},
		{"not the only variable", 1, func(x []bool) bool { return !x[0] }, rows{{1, 1, 0}}},
		{"majority", 3, func(x []bool) bool { return x[0] && (x[1] || x[2]) || x[1] && x[2] },
			rows{{3, 0, 1}, {2, 0, 2}, {2, 2, 1}, {1, 3, 4}}},
		{"parity", 3, func(x []bool) bool { return x[0] != (x[1] != x[2]) },
			rows{{3, 0, 1}, {3, 1, 0}, {2, 2, 3}, {2, 3, 2}, {1, 4, 5}}},
		{"both sides come to the node of 3", 3, func(x []bool) bool { return x[2] && (x[0] || x[1]) },
			rows{{3, 0, 1}, {2, 0, 2}, {1, 3, 2}}},
		{"both sides of 2 come to nodes of 3", 3, func(x []bool) bool { return x[0] && x[1] != x[2] },
			rows{{3, 0, 1}, {3, 1, 0}, {2, 2, 3}, {1, 0, 4}}},
		{"if 1 then 2 else 3", 3, func(x []bool) bool { return x[0] && x[1] || !x[0] && x[2] },
			rows{{3, 0, 1}, {2, 0, 1}, {1, 2, 3}}},
		{"if 1 then 3 else 2", 3, func(x []bool) bool { return x[0] && x[2] || !x[0] && x[1] },
			rows{{2, 0, 1}, {3, 0, 1}, {1, 2, 3}}},
		{"1 and 3 differ, without 2", 3, func(x []bool) bool { return x[0] != x[2] },
			rows{{3, 0, 1}, {3, 1, 0}, {1, 2, 3}}},
		{"2 and 5 of 6", 6, func(x []bool) bool { return x[1] && x[4] }, rows{{5, 0, 1}, {2, 0, 2}}},
		{"all of 6", 6, func(x []bool) bool { return !slices.Contains(x, false) },
			rows{{6, 0, 1}, {5, 0, 2}, {4, 0, 3}, {3, 0, 4}, {2, 0, 5}, {1, 0, 6}}},
		{"any of 6", 6, func(x []bool) bool { return slices.Contains(x, true) },
			rows{{6, 0, 1}, {5, 2, 1}, {4, 3, 1}, {3, 4, 1}, {2, 5, 1}, {1, 6, 1}}},
		{"false", 3, func(x []bool) bool { return false }, nil},
	} {
		d := checkTable(t, x.vars, tableBy(x.vars, x.value))
		root := 0
		if len(x.want) > 0 {
			root = len(x.want) + 1
		}
		if want := (plain{x.vars, x.want, root}).diagram(); !sameDiagram(d, want) {
			t.Errorf("%s: %v, want %v", x.name, d, want)
		}
	}
}

// The index of a value has the bit 2^k for the variable k + 1.
func TestIndexesOfModels(t *testing.T) {
	for vars := range 7 {
		for at := range 1 << vars {
			table := constantTable(vars, false)
			table[at] = true
			d := checkDiagram(t, vars, table)
			model := make([]bool, vars)
			for k := range model {
				model[k] = at/(1<<k)%2 == 1
			}
			if value, ok := impl.EvalDiagram(d, model); !value || !ok {
				t.Errorf("EvalDiagram(%v, %v) = %t, %t, want true, true", d, model, value, ok)
			}
			if len(d.Nodes) != vars {
				t.Errorf("a table of %d variables with one value true has the nodes %v", vars, d.Nodes)
			}
		}
	}
}

func TestConstantTables(t *testing.T) {
	for vars := range 7 {
		for root, value := range []bool{false, true} {
			d := checkTable(t, vars, constantTable(vars, value))
			if d.Vars != vars || len(d.Nodes) != 0 || d.Root != root {
				t.Errorf("DiagramOf of %d variables, all %t = %v", vars, value, d)
			}
			if ones, ok := impl.OnesOf(d); ones != root<<vars || !ok {
				t.Errorf("OnesOf(%v) = %d, %t", d, ones, ok)
			}
		}
	}
}

func TestTablesOfOneVariable(t *testing.T) {
	for vars := 1; vars < 7; vars++ {
		for v := 1; v <= vars; v++ {
			positive := checkTable(t, vars, tableBy(vars, func(x []bool) bool { return x[v-1] }))
			if want := (plain{vars, rows{{v, 0, 1}}, 2}).diagram(); !sameDiagram(positive, want) {
				t.Errorf("variable %d alone: %v, want %v", v, positive, want)
			}
			negated := checkTable(t, vars, tableBy(vars, func(x []bool) bool { return !x[v-1] }))
			if want := (plain{vars, rows{{v, 1, 0}}, 2}).diagram(); !sameDiagram(negated, want) {
				t.Errorf("variable %d negated: %v, want %v", v, negated, want)
			}
		}
	}
}

// eachTable is for at most 4 variables.
func eachTable(vars int, visit func(table []bool)) {
	for digits := range 1 << (1 << vars) {
		table := make([]bool, 1<<vars)
		for i := range table {
			table[i] = digits>>i&1 == 1
		}
		visit(table)
	}
}

func TestEverySmallTable(t *testing.T) {
	for vars := range 4 {
		eachTable(vars, func(table []bool) { checkTable(t, vars, table) })
	}
}

// someTable has many or few values that are true, or is made of clauses, of
// parts that recur, or of some of the variables.
func someTable(g *lcg, vars int) []bool {
	table := make([]bool, 1<<vars)
	switch of := 1 + g.below(8); g.below(5) {
	case 0:
		for i := range table {
			table[i] = g.below(2) == 0
		}
	case 1:
		most := g.below(2) == 0
		for i := range table {
			table[i] = g.below(2*of) == 0 != most
		}
	case 2:
		l := someClauses(g, vars, of)
		return tableBy(vars, func(x []bool) bool { return wantHoldsAll(l, x) })
	case 3:
		part := someTable(g, min(2, vars))
		for i := range table {
			table[i] = part[(i/len(part)+i)%len(part)] != (g.below(16) == 0)
		}
	case 4:
		seen, values := g.below(len(table)), someTable(g, vars)
		for i := range table {
			table[i] = values[i&seen]
		}
	}
	return table
}

func TestManyTables(t *testing.T) {
	g := lcg(80)
	for i := range 1200 {
		vars := 4 + i%3
		table := someTable(&g, vars)
		if len(table) != 1<<vars {
			t.Fatalf("%d values of %d variables", len(table), vars)
		}
		checkTable(t, vars, table)
	}
}

// All 16 tables of the variables 5 and 6 are there, of which 12 depend on 5 and
// two on 6 alone: no diagram has more nodes.
func TestLargestDiagram(t *testing.T) {
	d := checkTable(t, 6, tableBy(6, func(x []bool) bool {
		return wantIndex(x[:4])>>wantIndex(x[4:])&1 == 1
	}))
	counts := make([]int, 7)
	for _, n := range d.Nodes {
		counts[n.Var]++
	}
	if !slices.Equal(counts, []int{0, 1, 2, 4, 8, 12, 2}) || d.Root != 30 {
		t.Errorf("%v has %v nodes of each variable", d, counts)
	}
}

// Promise 7: equal halves yield no node. A variable that nothing depends on is
// put among the others, whose numbers are then those behind it.
func TestVariablesWithoutNodes(t *testing.T) {
	g := lcg(81)
	for i := range 2000 {
		vars := i % 6
		table := someTable(&g, vars)
		narrow := checkDiagram(t, vars, table)
		for v := 1; v <= vars+1; v++ {
			wide := checkDiagram(t, vars+1, tableBy(vars+1, func(x []bool) bool {
				return table[wantIndex(slices.Concat(x[:v-1], x[v:]))]
			}))
			want := impl.Diagram{Vars: vars + 1, Root: narrow.Root}
			for _, n := range narrow.Nodes {
				if n.Var >= v {
					n.Var++
				}
				want.Nodes = append(want.Nodes, n)
			}
			if !sameDiagram(wide, want) {
				t.Fatalf("%v with the variable %d put in is %v, want %v", narrow, v, wide, want)
			}
		}
	}
}

// Promise 7: different tables have different diagrams, and equal ones equal
// diagrams.
func TestEqualDiagrams(t *testing.T) {
	tables := map[string][]bool{}
	count := 0
	for vars := range 5 {
		eachTable(vars, func(table []bool) {
			d, ok := impl.DiagramOf(vars, table)
			again, _ := impl.DiagramOf(vars, slices.Clone(table))
			if !ok || !sameDiagram(d, again) {
				t.Fatalf("DiagramOf(%d, %v) = %v, %t, then %v", vars, table, d, ok, again)
			}
			name := fmt.Sprint(d)
			if other, found := tables[name]; found {
				t.Fatalf("%v and %v have the diagram %s", table, other, name)
			}
			tables[name] = table
			count++
		})
	}
	if count != 2+4+16+256+65536 || len(tables) != count {
		t.Errorf("%d tables have %d diagrams", count, len(tables))
	}
}

// Promise 7: one value makes a difference, wherever it is.
func TestDiagramsOfNeighbours(t *testing.T) {
	g := lcg(82)
	for i := range 120 {
		vars := 5 + i%2
		table := someTable(&g, vars)
		d := checkDiagram(t, vars, table)
		for at := range table {
			other := slices.Clone(table)
			other[at] = !other[at]
			if near, ok := impl.DiagramOf(vars, other); sameDiagram(near, d) || !ok {
				t.Fatalf("%v and %v have the diagrams %v and %v", table, other, d, near)
			}
		}
	}
}

func TestEveryConjunction(t *testing.T) {
	for vars := range 4 {
		diagrams := map[string]impl.Diagram{}
		eachTable(vars, func(table []bool) {
			diagrams[fmt.Sprint(table)], _ = impl.DiagramOf(vars, table)
		})
		eachTable(vars, func(a []bool) {
			eachTable(vars, func(b []bool) {
				x, y := diagrams[fmt.Sprint(a)], diagrams[fmt.Sprint(b)]
				want := diagrams[fmt.Sprint(wantBoth(a, b))]
				if both, ok := impl.BothOf(x, y); !sameDiagram(both, want) || !ok {
					t.Fatalf("BothOf(%v, %v) = %v, %t, want %v, true", x, y, both, ok, want)
				}
			})
		})
	}
}

func TestConjunctions(t *testing.T) {
	g := lcg(83)
	for i := range 4000 {
		vars := i % 7
		a, b := someTable(&g, vars), someTable(&g, vars)
		checkBoth(t, checkDiagram(t, vars, a), checkDiagram(t, vars, b), a, b)
	}
}

// The clauses of two lists together have the conjunction of their diagrams.
func TestConjunctionsOfClauses(t *testing.T) {
	g := lcg(84)
	for i := range 2000 {
		vars := i % 7
		a, b := someClauses(&g, vars, g.below(8)), someClauses(&g, vars, g.below(8))
		both, ok := impl.BothOf(checkByClauses(t, vars, a), checkByClauses(t, vars, b))
		if want := checkByClauses(t, vars, slices.Concat(a, b)); !sameDiagram(both, want) || !ok {
			t.Fatalf("BothOf of the clauses %v and %v = %v, %t, want %v, true", a, b, both, ok, want)
		}
	}
}

func TestFixVarByHand(t *testing.T) {
	d := checkDiagram(t, 3, tableBy(3, func(x []bool) bool { return x[0] && x[2] || !x[0] && !x[2] }))
	for _, x := range []struct {
		v    int
		so   bool
		want rows
	}{
		{1, false, rows{{3, 1, 0}}},
		{1, true, rows{{3, 0, 1}}},
		{2, false, rows{{3, 1, 0}, {3, 0, 1}, {1, 2, 3}}},
		{2, true, rows{{3, 1, 0}, {3, 0, 1}, {1, 2, 3}}},
		{3, false, rows{{1, 1, 0}}},
		{3, true, rows{{1, 0, 1}}},
	} {
		want := plain{3, x.want, len(x.want) + 1}.diagram()
		if fixed, ok := impl.FixVar(d, x.v, x.so); !sameDiagram(fixed, want) || !ok {
			t.Errorf("FixVar(%v, %d, %t) = %v, %t, want %v, true", d, x.v, x.so, fixed, ok, want)
		}
	}
}

// What is left once a variable is fixed may be in another order: ahead of that,
// the node of 3 comes first because of the side that goes.
func TestFixVarChangesTheOrder(t *testing.T) {
	d := checkTable(t, 4, tableBy(4, func(x []bool) bool { return !x[0] && x[1] && x[3] || (x[0] || !x[1]) && x[2] }))
	if want := (plain{4, rows{{3, 0, 1}, {4, 0, 1}, {2, 2, 3}, {1, 4, 2}}, 5}).diagram(); !sameDiagram(d, want) {
		t.Fatalf("%v, want %v", d, want)
	}
	fixed, ok := impl.FixVar(d, 2, true)
	if want := (plain{4, rows{{4, 0, 1}, {3, 0, 1}, {1, 2, 3}}, 4}).diagram(); !sameDiagram(fixed, want) || !ok {
		t.Errorf("FixVar(%v, 2, true) = %v, %t, want %v, true", d, fixed, ok, want)
	}
}

// The variables are fixed one after the other, in an order of their own: what
// is left is the value for that model.
func TestFixEveryVariable(t *testing.T) {
	g := lcg(85)
	for range 1000 {
		vars := 1 + g.below(6)
		table := someTable(&g, vars)
		d := checkDiagram(t, vars, table)
		model := make([]bool, vars)
		for _, x := range someClause(&g, vars, vars) {
			v := max(x, -x)
			model[v-1] = x > 0
			d, _ = impl.FixVar(d, v, x > 0)
		}
		root := 0
		if table[wantIndex(model)] {
			root = 1
		}
		if want := (impl.Diagram{Vars: vars, Root: root}); !sameDiagram(d, want) {
			t.Fatalf("%v, fixed to %v, is %v, want %v", table, model, d, want)
		}
	}
}

func TestByClausesValues(t *testing.T) {
	six := []int{1, 2, 3, 4, 5, 6}
	for _, x := range []struct {
		vars int
		l    [][]int
		want rows
		root int
	}{
		{2, [][]int{{1}, {2}}, rows{{2, 0, 1}, {1, 0, 2}}, 3},
		{2, [][]int{{2}, {1}}, rows{{2, 0, 1}, {1, 0, 2}}, 3},
		{2, [][]int{{1, 2}, {-1}}, rows{{2, 0, 1}, {1, 2, 0}}, 3},
		{2, [][]int{{-1, -2}, {1, 2}}, rows{{2, 0, 1}, {2, 1, 0}, {1, 2, 3}}, 4},
		{2, contradiction(1, 2), nil, 0},
		{1, [][]int{{1}, {-1}}, nil, 0},
		{3, [][]int{{2}}, rows{{2, 0, 1}}, 2},
		{3, [][]int{{-3}, {-3}}, rows{{3, 1, 0}}, 2},
		{3, eightClauses(), nil, 0},
		{3, eightClauses()[1:], rows{{3, 1, 0}, {2, 2, 0}, {1, 3, 0}}, 4},
		{3, eightClauses()[:7], rows{{3, 0, 1}, {2, 0, 2}, {1, 0, 3}}, 4},
		{6, units(six), rows{{6, 0, 1}, {5, 0, 2}, {4, 0, 3}, {3, 0, 4}, {2, 0, 5}, {1, 0, 6}}, 7},
		{6, [][]int{six}, rows{{6, 0, 1}, {5, 2, 1}, {4, 3, 1}, {3, 4, 1}, {2, 5, 1}, {1, 6, 1}}, 7},
		{6, [][]int{{6, 1}}, rows{{6, 0, 1}, {1, 2, 1}}, 3},
	} {
		d := checkByClauses(t, x.vars, x.l)
		if want := (plain{x.vars, x.want, x.root}).diagram(); !sameDiagram(d, want) {
			t.Errorf("ByClauses(%d, %v) = %v, want %v", x.vars, x.l, d, want)
		}
	}
}

// No clauses always hold, and the empty clause never does, whatever is beside
// it.
func TestByClausesConstants(t *testing.T) {
	for vars := range 7 {
		for _, l := range [][][]int{nil, {}} {
			if d := checkByClauses(t, vars, l); !sameDiagram(d, impl.Diagram{Vars: vars, Root: 1}) {
				t.Errorf("ByClauses(%d, %v) = %v", vars, l, d)
			}
		}
		never := [][][]int{{{}}, {nil}, {{}, {}}}
		if vars > 0 {
			never = append(never, [][]int{{vars}, {}}, [][]int{{}, {-vars}})
		}
		for _, l := range never {
			if d := checkByClauses(t, vars, l); !sameDiagram(d, impl.Diagram{Vars: vars}) {
				t.Errorf("ByClauses(%d, %v) = %v", vars, l, d)
			}
		}
	}
}

func TestByClausesOfSmallLists(t *testing.T) {
	all := listed(2)
	for _, a := range all {
		for _, b := range all {
			checkByClauses(t, 2, [][]int{a, b})
			checkByClauses(t, 3, [][]int{a, {3}, b})
		}
	}
}

func TestByClausesOfManyLists(t *testing.T) {
	g := lcg(86)
	for i := range 3000 {
		vars := i % 7
		d := checkByClauses(t, vars, someClauses(&g, vars, g.below(20)))
		if not, ok := impl.NotOf(d); !ok || not.Vars != vars {
			t.Fatalf("NotOf(%v) = %v, %t", d, not, ok)
		}
	}
	for vars := range 7 {
		checkByClauses(t, vars, someClauses(&g, vars, 60))
	}
}

// As many models satisfy the clauses as their diagram has ones.
func TestByClausesCountsModels(t *testing.T) {
	g := lcg(87)
	for i := range 500 {
		vars := i % 7
		l := someLongSearch(&g, vars, g.below(10))
		d, _ := impl.ByClauses(vars, l)
		ones, ok := impl.OnesOf(d)
		if models, counted := impl.CountModels(vars, l); ones != models || !ok || !counted {
			t.Fatalf("OnesOf of the clauses %v = %d, %t, but they have %d models", l, ones, ok, models)
		}
	}
}

// wantZeroDiagram is for a diagram that is not valid, as each argument.
func wantZeroDiagram(t *testing.T, name string, d impl.Diagram) {
	t.Helper()
	if impl.GoodDiagram(d) {
		t.Fatalf("%s: GoodDiagram(%v) = true", name, d)
	}
	if table, ok := impl.TableOf(d); len(table) != 0 || ok {
		t.Errorf("%s: TableOf(%v) = %v, %t", name, d, table, ok)
	}
	for size := range 8 {
		for _, value := range []bool{false, true} {
			model := slices.Repeat([]bool{value}, size)
			if got, ok := impl.EvalDiagram(d, model); got || ok {
				t.Errorf("%s: EvalDiagram(%v, %v) = %t, %t", name, d, model, got, ok)
			}
			if fixed, ok := impl.FixVar(d, size, value); !isZeroDiagram(fixed) || ok {
				t.Errorf("%s: FixVar(%v, %d, %t) = %v, %t", name, d, size, value, fixed, ok)
			}
		}
	}
	if not, ok := impl.NotOf(d); !isZeroDiagram(not) || ok {
		t.Errorf("%s: NotOf(%v) = %v, %t", name, d, not, ok)
	}
	if ones, ok := impl.OnesOf(d); ones != 0 || ok {
		t.Errorf("%s: OnesOf(%v) = %d, %t", name, d, ones, ok)
	}
	for _, other := range append(goodDiagrams(d.Vars), d) {
		wantZeroBoth(t, name, d, other)
		wantZeroBoth(t, name, other, d)
	}
}

func wantZeroBoth(t *testing.T, name string, a, b impl.Diagram) {
	t.Helper()
	if both, ok := impl.BothOf(a, b); !isZeroDiagram(both) || ok {
		t.Errorf("%s: BothOf(%v, %v) = %v, %t", name, a, b, both, ok)
	}
}

// goodDiagrams are some that are valid for that number of variables, if any is.
func goodDiagrams(vars int) []impl.Diagram {
	good := []impl.Diagram{{Vars: vars}, {Vars: vars, Root: 1}, {Vars: vars, Nodes: []impl.Node{{Var: 1, High: 1}}, Root: 2}}
	return slices.DeleteFunc(good, func(d impl.Diagram) bool { return !wantGoodDiagram(d) })
}

// checkAnyDiagram is for one that may be valid. It reports whether it is.
func checkAnyDiagram(t *testing.T, d impl.Diagram) bool {
	t.Helper()
	if !wantGoodDiagram(d) {
		wantZeroDiagram(t, "not valid", d)
		return false
	}
	if !impl.GoodDiagram(d) {
		t.Fatalf("GoodDiagram(%v) = false", d)
	}
	table, ok := impl.TableOf(d)
	if !ok || len(table) != 1<<d.Vars || !sameDiagram(checkDiagram(t, d.Vars, table), d) {
		t.Fatalf("TableOf(%v) = %v, %t", d, table, ok)
	}
	return true
}

// eachRaw visits all diagrams with that many nodes, whose numbers are in
// from..to and whose variables are in from..vars + 1.
func eachRaw(vars int, nodes int, from int, to int, visit func(d impl.Diagram)) {
	d := impl.Diagram{Vars: vars, Nodes: make([]impl.Node, nodes)}
	var fill func(i int)
	fill = func(i int) {
		if i == nodes {
			for d.Root = from; d.Root <= to; d.Root++ {
				visit(d)
			}
			return
		}
		for v := from; v <= vars+1; v++ {
			for low := from; low <= to; low++ {
				for high := from; high <= to; high++ {
					d.Nodes[i] = impl.Node{Var: v, Low: low, High: high}
					fill(i + 1)
				}
			}
		}
	}
	fill(0)
}

// Promise 7: of all that has the form of a diagram, exactly one is valid for
// each table. With 2 variables no diagram has more than 3 nodes.
func TestEveryRawDiagram(t *testing.T) {
	for _, x := range []struct{ vars, nodes, from, to, good int }{
		{0, 0, -2, 4, 2}, {0, 1, -1, 3, 0}, {0, 2, -1, 4, 0},
		{1, 0, -2, 4, 2}, {1, 1, -1, 3, 2}, {1, 2, -1, 4, 0},
		{2, 0, -2, 4, 2}, {2, 1, -1, 3, 4}, {2, 2, -1, 4, 8}, {2, 3, 1, 5, 0}, {2, 3, 0, 4, 2},
	} {
		good := 0
		eachRaw(x.vars, x.nodes, x.from, x.to, func(d impl.Diagram) {
			is := impl.GoodDiagram(d)
			if is != wantGoodDiagram(d) {
				t.Fatalf("GoodDiagram(%v) = %t", d, is)
			}
			if is {
				good++
				checkAnyDiagram(t, d)
			}
		})
		if good != x.good {
			t.Errorf("%d diagrams of %d variables and %d nodes are valid, want %d", good, x.vars, x.nodes, x.good)
		}
	}
}

// majority is the diagram that most of those that are not valid are made of.
func majority() impl.Diagram {
	return plain{3, majorityRows(), 5}.diagram()
}

func majorityRows() rows {
	return rows{{3, 0, 1}, {2, 0, 2}, {2, 2, 1}, {1, 3, 4}}
}

// majorityWith has another node in one place.
func majorityWith(at int, n impl.Node) impl.Diagram {
	d := majority()
	d.Nodes[at] = n
	return d
}

func badDiagrams() map[string]plain {
	return map[string]plain{
		"a node too many, last":             {3, append(majorityRows(), [3]int{3, 1, 0}), 5},
		"a node too many, above the root":   {4, rows{{4, 0, 1}, {2, 0, 2}, {1, 0, 3}}, 3},
		"a node too many, first":            {3, rows{{3, 1, 0}, {3, 0, 1}, {2, 0, 3}, {2, 3, 1}, {1, 4, 5}}, 6},
		"a node too many, in between":       {3, rows{{3, 0, 1}, {3, 1, 0}, {2, 0, 2}, {2, 2, 1}, {1, 4, 5}}, 6},
		"a node too many beside a constant": {1, rows{{1, 0, 1}}, 1},
		"the last node missing":             {3, majorityRows()[:3], 5},
		"the last node missing, Root 4":     {3, majorityRows()[:3], 4},
		"the first node missing":            {3, majorityRows()[1:], 5},
		"the first node missing, Root 4":    {3, majorityRows()[1:], 4},
		"a node in between missing":         {3, slices.Delete(majorityRows(), 1, 2), 4},
		"no nodes":                          {3, nil, 5},
		"two equal nodes":                   {3, rows{{3, 0, 1}, {2, 0, 2}, {3, 0, 1}, {2, 4, 1}, {1, 3, 5}}, 6},
		"two equal nodes side by side":      {3, rows{{3, 0, 1}, {3, 0, 1}, {2, 2, 1}, {2, 0, 3}, {1, 4, 5}}, 6},
		"the last node twice":               {3, append(majorityRows(), majorityRows()[3]), 6},
		"the only node twice":               {1, rows{{1, 0, 1}, {1, 0, 1}}, 3},
		"both sides false":                  {3, rows{{3, 0, 0}}, 2},
		"both sides true":                   {3, rows{{1, 1, 1}}, 2},
		"both sides one node":               {3, rows{{3, 0, 1}, {2, 2, 2}}, 3},
		"both sides one node, further up":   {3, rows{{3, 0, 1}, {2, 0, 2}, {1, 3, 3}}, 4},
		"true side first":                   {3, rows{{3, 0, 1}, {2, 2, 1}, {2, 0, 2}, {1, 4, 3}}, 5},
		"true side first, two nodes":        {2, rows{{2, 1, 0}, {2, 0, 1}, {1, 3, 2}}, 4},
		"one level after the other":         {3, rows{{3, 0, 1}, {3, 1, 0}, {2, 0, 2}, {2, 0, 3}, {1, 4, 5}}, 6},
		"root first":                        {3, rows{{1, 4, 5}, {3, 0, 1}, {2, 0, 3}, {2, 3, 1}}, 2},
		"a node ahead of its side":          {2, rows{{1, 0, 3}, {2, 0, 1}}, 2},
		"the other way round":               {2, rows{{1, 3, 4}, {2, 0, 1}, {2, 1, 0}}, 2},
		"a variable twice on a way":         {3, rows{{2, 0, 1}, {2, 0, 2}, {1, 0, 3}}, 4},
		"a variable that falls":             {3, rows{{2, 0, 1}, {3, 0, 2}, {1, 0, 3}}, 4},
		"a variable that falls to the root": {2, rows{{1, 0, 1}, {2, 0, 2}}, 3},
		"nothing but Var 0":                 {3, rows{{0, 0, 1}}, 2},
		"a constant with Root 2":            {3, nil, 2},
		"a constant with Root -1":           {3, nil, -1},
		"no variables and a node":           {0, rows{{1, 0, 1}}, 2},
		"no variables and Var 0":            {0, rows{{0, 0, 1}}, 2},
		"a node that leads to itself":       {1, rows{{1, 2, 1}}, 2},
		"both sides the node itself":        {1, rows{{1, 2, 2}}, 2},
		"two nodes in a circle":             {2, rows{{2, 3, 1}, {1, 2, 0}}, 3},
		"three nodes in a circle":           {3, rows{{3, 4, 1}, {2, 2, 1}, {1, 3, 0}}, 4},
		"a circle beside the root":          {3, rows{{3, 0, 1}, {2, 4, 1}, {2, 3, 0}}, 2},
		"the largest numbers":               {math.MaxInt, rows{{math.MaxInt, math.MaxInt, math.MaxInt}}, math.MaxInt},
		"the least numbers":                 {math.MinInt, rows{{math.MinInt, math.MinInt, math.MinInt}}, math.MinInt},
		"many equal nodes":                  {6, slices.Repeat(rows{{1, 0, 1}}, 100000), 100001},
		"a long chain":                      longChain(6, 50000),
		"a long circle":                     {6, append(longChain(6, 50000).rows, [3]int{6, 50002, 1}), 50002},
	}
}

// longChain has nodes that all continue with the one ahead of them.
func longChain(vars int, length int) plain {
	p := plain{vars, nil, length + 1}
	for i := range length {
		p.rows = append(p.rows, [3]int{1 + i%vars, i + 1, i % 2})
	}
	return p
}

// Promise 19: a diagram that is not valid, as each argument of each function.
func TestBadDiagrams(t *testing.T) {
	checkValid(t, majority(), true)
	for name, p := range badDiagrams() {
		wantZeroDiagram(t, name, p.diagram())
	}
}

func checkValid(t *testing.T, d impl.Diagram, want bool) {
	t.Helper()
	if valid := checkAnyDiagram(t, d); valid != want {
		t.Errorf("%v is valid: %t, want %t", d, valid, want)
	}
}

// Promise 19: another number in each field of a valid diagram. Another side of
// a node may make another valid diagram.
func TestDiagramsWithAnotherNumber(t *testing.T) {
	for _, n := range append(slices.Clone(oddNumbers), 3, 4) {
		d := majority()
		d.Root = n
		checkValid(t, d, n == 5)
		d = majority()
		d.Vars = n
		checkValid(t, d, n >= 3 && n <= 6)
		for at, old := range majority().Nodes {
			checkValid(t, majorityWith(at, impl.Node{Var: n, Low: old.Low, High: old.High}), n == old.Var)
			checkAnyDiagram(t, majorityWith(at, impl.Node{Var: old.Var, Low: n, High: old.High}))
			checkAnyDiagram(t, majorityWith(at, impl.Node{Var: old.Var, Low: old.Low, High: n}))
		}
	}
}

// Promise 19: numbers of variables that there are not, whatever the diagram is.
func TestVariablesOfDiagrams(t *testing.T) {
	for _, vars := range append([]int{7, 8, 12}, badVars...) {
		for _, p := range []plain{{vars, nil, 0}, {vars, nil, 1}, {vars, rows{{1, 0, 1}}, 2}, {vars, rows{{7, 0, 1}}, 2}, {vars, majorityRows(), 5}} {
			wantZeroDiagram(t, fmt.Sprintf("%d variables", vars), p.diagram())
		}
	}
}

// renumbered puts the nodes in the order of the list, which names each of them
// once. The values remain the same.
func renumbered(d impl.Diagram, order []int) impl.Diagram {
	number := func(at int) int {
		if at < 2 {
			return at
		}
		return slices.Index(order, at-2) + 2
	}
	moved := impl.Diagram{Vars: d.Vars, Root: number(d.Root)}
	for _, from := range order {
		n := d.Nodes[from]
		moved.Nodes = append(moved.Nodes, impl.Node{Var: n.Var, Low: number(n.Low), High: number(n.High)})
	}
	return moved
}

// eachPairOfNodes visits the indexes of two nodes, in some diagrams.
func eachPairOfNodes(t *testing.T, g lcg, count int, visit func(d impl.Diagram, first, second int)) {
	t.Helper()
	for i := range count {
		vars := 2 + i%5
		d := checkDiagram(t, vars, someTable(&g, vars))
		for second := range d.Nodes {
			for first := range second {
				visit(d, first, second)
			}
		}
	}
}

// Promise 7: the nodes have one order. Two nodes trade places, and all that
// names them is changed.
func TestNodesInAnotherOrder(t *testing.T) {
	eachPairOfNodes(t, 88, 150, func(d impl.Diagram, first, second int) {
		order := make([]int, len(d.Nodes))
		for i := range order {
			order[i] = i
		}
		order[first], order[second] = second, first
		moved := renumbered(d, order)
		wantZeroDiagram(t, "another order", moved)
		if back := renumbered(moved, order); !sameDiagram(back, d) {
			t.Fatalf("%v and back is %v", d, back)
		}
	})
}

// doubled has a node twice: the second one is in that place, and what is behind
// it leads there if that is so.
func doubled(d impl.Diagram, node int, place int, leads bool) impl.Diagram {
	twice := impl.Diagram{Vars: d.Vars, Root: d.Root}
	if d.Root-2 >= place {
		twice.Root++
	}
	move := func(at int) int {
		switch {
		case leads && at == node+2:
			return place + 2
		case at-2 >= place:
			return at + 1
		}
		return at
	}
	for i, n := range d.Nodes {
		if i == place {
			twice.Nodes = append(twice.Nodes, d.Nodes[node])
		}
		if i >= place {
			n = impl.Node{Var: n.Var, Low: move(n.Low), High: move(n.High)}
		}
		twice.Nodes = append(twice.Nodes, n)
	}
	return twice
}

// Promise 7: a node is there only once.
func TestNodesThatAreThereTwice(t *testing.T) {
	eachPairOfNodes(t, 89, 100, func(d impl.Diagram, first, second int) {
		wantZeroDiagram(t, "a node twice", doubled(d, first, second, false))
		wantZeroDiagram(t, "a node twice", doubled(d, first, second, true))
	})
}

// spoilDiagram changes a diagram so that it is likely, not certain, that it is
// not valid.
func spoilDiagram(g *lcg, d impl.Diagram) impl.Diagram {
	d = cloneDiagram(d)
	near := g.below(10) - 1
	if g.below(4) == 0 {
		near = oddNumbers[g.below(len(oddNumbers))]
	}
	if len(d.Nodes) == 0 || g.below(8) == 0 {
		switch g.below(3) {
		case 0:
			d.Root = near
		case 1:
			d.Vars = near
		case 2:
			d.Nodes = append(d.Nodes, impl.Node{Var: g.below(d.Vars + 1), High: 1})
		}
		return d
	}
	at := g.below(len(d.Nodes))
	switch g.below(8) {
	case 0:
		d.Nodes[at].Var = near
	case 1:
		d.Nodes[at].Low = near
	case 2:
		d.Nodes[at].High = near
	case 3:
		d.Nodes[at].Low, d.Nodes[at].High = d.Nodes[at].High, d.Nodes[at].Low
	case 4:
		d.Nodes = slices.Delete(d.Nodes, at, at+1)
	case 5:
		d.Nodes = slices.Insert(d.Nodes, at, d.Nodes[g.below(len(d.Nodes))])
	case 6:
		other := g.below(len(d.Nodes))
		d.Nodes[at], d.Nodes[other] = d.Nodes[other], d.Nodes[at]
	case 7:
		d.Nodes[at].Low = d.Nodes[at].High
	}
	return d
}

// Promise 19: valid diagrams with one or two changes.
func TestSpoiledDiagrams(t *testing.T) {
	g := lcg(90)
	good := 0
	for i := range 12000 {
		vars := i % 7
		d, _ := impl.DiagramOf(vars, someTable(&g, vars))
		d = spoilDiagram(&g, d)
		if i%3 == 0 && d.Vars >= 0 && d.Vars < 7 {
			d = spoilDiagram(&g, d)
		}
		if checkAnyDiagram(t, d) {
			good++
		}
	}
	if good < 500 || good > 8000 {
		t.Errorf("%d diagrams are valid", good)
	}
}

// Promise 19: the functions answer for every number in every place.
func TestDiagramsWithOddNumbers(t *testing.T) {
	g := lcg(91)
	for range 6000 {
		d := impl.Diagram{Vars: oftenSmall(&g), Root: oftenSmall(&g)}
		for range g.below(5) {
			d.Nodes = append(d.Nodes, impl.Node{Var: oftenSmall(&g), Low: oftenSmall(&g), High: oftenSmall(&g)})
		}
		checkAnyDiagram(t, d)
	}
}

func wantZeroTable(t *testing.T, vars int, table []bool) {
	t.Helper()
	if d, ok := impl.DiagramOf(vars, table); !isZeroDiagram(d) || ok {
		t.Errorf("DiagramOf(%d, %d values) = %v, %t", vars, len(table), d, ok)
	}
}

// Promise 19: tables that do not have a value for each model.
func TestBadTables(t *testing.T) {
	for vars := range 7 {
		for _, size := range []int{1<<vars - 1, 1<<vars + 1, 1 << (vars + 1), 1 << vars / 2, 0, vars, 1000} {
			if size == 1<<vars {
				continue
			}
			wantZeroTable(t, vars, make([]bool, size))
			wantZeroTable(t, vars, slices.Repeat([]bool{true}, size))
		}
		wantZeroTable(t, vars, nil)
	}
	for _, vars := range append([]int{7, 8, 12, 63, 65, 70}, badVars...) {
		for _, size := range []int{0, 1, 2, 4, 64, 127, 128, 129, 4096} {
			wantZeroTable(t, vars, make([]bool, size))
			wantZeroTable(t, vars, slices.Repeat([]bool{true}, size))
		}
		wantZeroTable(t, vars, nil)
	}
}

// Promise 19: models that do not have a value for each variable.
func TestBadModelsOfDiagrams(t *testing.T) {
	g := lcg(92)
	for i := range 140 {
		vars := i % 7
		d := checkDiagram(t, vars, someTable(&g, vars))
		for size := range 10 {
			for _, value := range []bool{false, true} {
				model := slices.Repeat([]bool{value}, size)
				if got, ok := impl.EvalDiagram(d, model); ok != (size == vars) || got && !ok {
					t.Errorf("EvalDiagram(%v, %v) = %t, %t", d, model, got, ok)
				}
			}
		}
		if got, ok := impl.EvalDiagram(d, nil); ok != (vars == 0) || got && !ok {
			t.Errorf("EvalDiagram(%v, nil) = %t, %t", d, got, ok)
		}
	}
}

// Promise 19: variables that a diagram does not have.
func TestBadVariablesOfDiagrams(t *testing.T) {
	g := lcg(93)
	for i := range 140 {
		vars := i % 7
		d := checkDiagram(t, vars, someTable(&g, vars))
		for _, v := range slices.Concat(oddNumbers, []int{-vars, vars, vars + 1, 63, 64, 65}) {
			for _, so := range []bool{false, true} {
				fixed, ok := impl.FixVar(d, v, so)
				if has := v >= 1 && v <= vars; ok != has || !has && !isZeroDiagram(fixed) {
					t.Errorf("FixVar(%v, %d, %t) = %v, %t", d, v, so, fixed, ok)
				}
			}
		}
	}
}

// Promise 19: diagrams of different numbers of variables, also if they have the
// same nodes.
func TestBothOfDifferentVariables(t *testing.T) {
	for a := range 7 {
		for b := range 7 {
			if a == b {
				continue
			}
			for _, x := range goodDiagrams(a) {
				for _, y := range goodDiagrams(b) {
					wantZeroBoth(t, "different variables", x, y)
				}
			}
		}
	}
}

func wantZeroByClauses(t *testing.T, name string, vars int, l [][]int) {
	t.Helper()
	if d, ok := impl.ByClauses(vars, l); !isZeroDiagram(d) || ok {
		t.Errorf("ByClauses of %s = %v, %t", name, d, ok)
	}
}

// takeByClauses is for valid clauses, of which those of more than 6 variables
// have no diagram.
func takeByClauses(t *testing.T, vars int, l [][]int) {
	t.Helper()
	if vars > 6 {
		wantZeroByClauses(t, fmt.Sprintf("%d variables", vars), vars, l)
		return
	}
	checkByClauses(t, vars, l)
}

// Promise 19: what is just valid is taken, and what is just not is refused. A
// clause with both signs of a variable always holds, but is not valid.
func TestByClausesAtTheLimits(t *testing.T) {
	checkVariableLimits(t, takeByClauses, wantZeroByClauses)
	checkClauseLimits(t, takeByClauses, wantZeroByClauses)
	checkLiteralLimits(t, takeByClauses, wantZeroByClauses)
	for vars := range 13 {
		for name, c := range badClauses() {
			wantZeroByClauses(t, name, vars, [][]int{c})
			wantZeroByClauses(t, name, vars, [][]int{{}, c})
		}
	}
}

// Promise 19: the functions answer for every number in every place.
func TestByClausesWithOddNumbers(t *testing.T) {
	g := lcg(94)
	for range 6000 {
		vars, l, _, odd := someOddClauses(&g)
		for _, vars := range []int{vars, vars % 7, odd} {
			if wantGoodClauses(vars, l) {
				takeByClauses(t, vars, l)
			} else {
				wantZeroByClauses(t, fmt.Sprintf("%v of %d variables", l, vars), vars, l)
			}
		}
	}
}

// Promise 19: nil is no table, but it is a list of no nodes, of no clauses, and
// a model of no variables.
func TestDiagramsOfNil(t *testing.T) {
	wantZeroTable(t, 0, nil)
	checkValid(t, impl.Diagram{}, true)
	checkValid(t, impl.Diagram{Nodes: []impl.Node{}}, true)
	if value, ok := impl.EvalDiagram(impl.Diagram{Root: 1}, nil); !value || !ok {
		t.Errorf("EvalDiagram of true = %t, %t", value, ok)
	}
	if both, ok := impl.BothOf(impl.Diagram{Vars: 2, Nodes: []impl.Node{}, Root: 1}, impl.Diagram{Vars: 2, Root: 1}); !sameDiagram(both, impl.Diagram{Vars: 2, Root: 1}) || !ok {
		t.Errorf("BothOf of true and true = %v, %t", both, ok)
	}
	if d, ok := impl.ByClauses(0, nil); !sameDiagram(d, impl.Diagram{Root: 1}) || !ok {
		t.Errorf("ByClauses of nothing = %v, %t", d, ok)
	}
}

// roomyDiagram returns an equal diagram that has nodes behind its length.
func roomyDiagram(d impl.Diagram) impl.Diagram {
	d.Nodes = append(slices.Clone(d.Nodes), impl.Node{Var: 1, Low: 99, High: -1}, impl.Node{Var: 1, High: 1})[:len(d.Nodes)]
	return d
}

func roomOfDiagram(d impl.Diagram) []impl.Node {
	return d.Nodes[:len(d.Nodes)+2]
}

func roomyBools(b []bool) []bool {
	return append(slices.Clone(b), true, false, true)[:len(b)]
}

func roomOfBools(b []bool) []bool {
	return b[:len(b)+3]
}

// callDiagrams calls every function that takes a diagram.
func callDiagrams(a, b impl.Diagram, model []bool) {
	impl.GoodDiagram(a)
	impl.TableOf(a)
	impl.EvalDiagram(a, model)
	impl.BothOf(a, b)
	impl.BothOf(b, a)
	impl.BothOf(a, a)
	impl.NotOf(a)
	impl.OnesOf(a)
	for v := range 8 {
		impl.FixVar(a, v, v%2 == 0)
		impl.FixVar(a, v, v%2 != 0)
	}
}

// Promise 19: no argument is changed, up to the capacity of its memory, and
// what is behind the length of a list does not count.
func TestDiagramArgumentsAreNotChanged(t *testing.T) {
	g := lcg(95)
	for i := range 700 {
		vars := i % 7
		tableA, tableB, model := roomyBools(someTable(&g, vars)), roomyBools(someTable(&g, vars)), roomyBools(make([]bool, vars))
		a, b := roomyDiagram(checkDiagram(t, vars, tableA)), roomyDiagram(checkDiagram(t, vars, tableB))
		checkAnyDiagram(t, a)
		checkBoth(t, a, b, tableA, tableB)
		checkFix(t, a, tableA)
		checkNot(t, a, tableA)
		if i%4 == 0 {
			a = roomyDiagram(spoilDiagram(&g, a))
		}
		bools := [][]bool{slices.Clone(roomOfBools(tableA)), slices.Clone(roomOfBools(tableB)), slices.Clone(roomOfBools(model))}
		nodesA, nodesB := slices.Clone(roomOfDiagram(a)), slices.Clone(roomOfDiagram(b))
		callDiagrams(a, b, model)
		callDiagrams(b, a, model)
		impl.DiagramOf(vars, tableA)
		impl.DiagramOf(vars+1, tableA)
		for i, now := range [][]bool{tableA, tableB, model} {
			if !slices.Equal(roomOfBools(now), bools[i]) {
				t.Fatalf("%v became %v", bools[i], roomOfBools(now))
			}
		}
		if !slices.Equal(roomOfDiagram(a), nodesA) || !slices.Equal(roomOfDiagram(b), nodesB) {
			t.Fatalf("%v, %v became %v, %v", nodesA, nodesB, roomOfDiagram(a), roomOfDiagram(b))
		}
	}
}

// Promise 19: the clauses of ByClauses are not changed.
func TestByClausesArgumentsAreNotChanged(t *testing.T) {
	g := lcg(96)
	for range 2000 {
		vars := g.below(9)
		l := roomyClauses(someClauses(&g, vars, g.below(12)))
		before := wholeMemory(l)
		takeByClauses(t, vars, l)
		if !sameClauses(wholeMemory(l), before) {
			t.Fatalf("%v became %v", before, wholeMemory(l))
		}
	}
}

// checkNewDiagram overwrites the nodes of what is returned.
func checkNewDiagram(t *testing.T, call func() (impl.Diagram, bool)) {
	t.Helper()
	checkNew(t, func() []impl.Node { d, _ := call(); return d.Nodes }, impl.Node{Var: -7, Low: -7, High: -7})
}

// Promise 19: results share no memory with an argument or with one another,
// also where a result is equal to an argument.
func TestDiagramsAreNewMemory(t *testing.T) {
	g := lcg(97)
	for i := range 1500 {
		vars := i % 7
		table := roomyBools(someTable(&g, vars))
		tableBefore := slices.Clone(roomOfBools(table))
		checkNewDiagram(t, func() (impl.Diagram, bool) { return impl.DiagramOf(vars, table) })
		a, b := roomyDiagram(checkDiagram(t, vars, table)), roomyDiagram(checkDiagram(t, vars, someTable(&g, vars)))
		nodesA, nodesB := slices.Clone(roomOfDiagram(a)), slices.Clone(roomOfDiagram(b))
		checkNewDiagram(t, func() (impl.Diagram, bool) { return impl.NotOf(a) })
		for _, with := range []impl.Diagram{a, b, {Vars: vars}, {Vars: vars, Root: 1}} {
			checkNewDiagram(t, func() (impl.Diagram, bool) { return impl.BothOf(a, with) })
			checkNewDiagram(t, func() (impl.Diagram, bool) { return impl.BothOf(with, a) })
		}
		for v := 1; v <= vars; v++ {
			checkNewDiagram(t, func() (impl.Diagram, bool) { return impl.FixVar(a, v, i%2 == 0) })
		}
		checkNew(t, func() []bool { u, _ := impl.TableOf(a); return u }, true)
		checkNew(t, func() []bool { u, _ := impl.TableOf(a); return u }, false)
		if !slices.Equal(roomOfDiagram(a), nodesA) || !slices.Equal(roomOfDiagram(b), nodesB) || !slices.Equal(roomOfBools(table), tableBefore) {
			t.Fatalf("a result shares memory: %v, %v became %v, %v", nodesA, nodesB, roomOfDiagram(a), roomOfDiagram(b))
		}
		l := someClauses(&g, vars, g.below(6))
		checkNewDiagram(t, func() (impl.Diagram, bool) { return impl.ByClauses(vars, l) })
	}
}

// Promise 19: what is behind the length of a list does not count, even if it
// would make a valid argument.
func TestDiagramsBehindTheLength(t *testing.T) {
	whole := rows{{3, 0, 1}, {2, 0, 2}, {1, 0, 3}}.nodes()
	for size := range whole {
		wantZeroDiagram(t, "nodes behind the length", impl.Diagram{Vars: 3, Nodes: whole[:size], Root: 4})
	}
	table, model := make([]bool, 8), make([]bool, 3)
	for size := range table {
		wantZeroTable(t, 3, table[:size])
	}
	for size := range model {
		if value, ok := impl.EvalDiagram(impl.Diagram{Vars: 3, Root: 1}, model[:size]); value || ok {
			t.Errorf("EvalDiagram of true, %v = %t, %t", model[:size], value, ok)
		}
	}
}

// Promise 19: two diagrams may share their nodes.
func TestDiagramsThatShareNodes(t *testing.T) {
	whole := rows{{3, 0, 1}, {2, 0, 2}, {1, 0, 3}}.nodes()
	a := impl.Diagram{Vars: 3, Nodes: whole[:2], Root: 3}
	b := impl.Diagram{Vars: 3, Nodes: whole, Root: 4}
	c := impl.Diagram{Vars: 3, Nodes: whole[:1], Root: 2}
	for _, x := range []impl.Diagram{a, b, c} {
		for _, y := range []impl.Diagram{a, b, c} {
			want := x
			if len(y.Nodes) > len(x.Nodes) {
				want = y
			}
			if both, ok := impl.BothOf(x, y); !sameDiagram(both, want) || !ok {
				t.Errorf("BothOf(%v, %v) = %v, %t, want %v, true", x, y, both, ok, want)
			}
			checkNewDiagram(t, func() (impl.Diagram, bool) { return impl.BothOf(x, y) })
		}
	}
	if !slices.Equal(whole, rows{{3, 0, 1}, {2, 0, 2}, {1, 0, 3}}.nodes()) {
		t.Errorf("the nodes became %v", whole)
	}
}
