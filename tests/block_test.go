package tests

import (
	"fmt"
	"math"
	"slices"
	"strconv"
	"strings"
	"testing"

	"loop.example/g00605/impl"
)

// listsOf are the functions of a whole program, and listsAt those of one of its
// steps that return a list.
var listsOf = map[string]func(p []impl.Step) ([]int, bool){
	"ReachedIn": impl.ReachedIn,
	"LeadersOf": impl.LeadersOf,
	"NearestOf": impl.NearestOf,
}

var listsAt = map[string]func(p []impl.Step, at int) ([]int, bool){
	"AheadOf":  impl.AheadOf,
	"MustPass": impl.MustPass,
	"EndsFrom": impl.EndsFrom,
}

// laid reads a program of which only the paths matter: a dot is a step that
// goes on, x an exit, and j, e and l are jumps over that many steps.
func laid(text string) []impl.Step {
	var p []impl.Step
	for _, word := range strings.Fields(text) {
		to, _ := strconv.Atoi(word[1:])
		p = append(p, map[byte]impl.Step{
			'.': {Kind: impl.StSet, Dst: 1, Imm: 1},
			'j': {Kind: impl.StJump, To: to},
			'e': {Kind: impl.StEq, Src: 1, To: to},
			'l': {Kind: impl.StLess, Src: 1, To: to},
			'x': {Kind: impl.StExit},
		}[word[0]])
	}
	return p
}

func numbersIn(text string) []int {
	var l []int
	for _, word := range strings.Fields(text) {
		n, err := strconv.Atoi(word)
		if err != nil {
			panic(err)
		}
		l = append(l, n)
	}
	return l
}

// rowsIn reads lists of numbers that are separated by bars.
func rowsIn(text string) [][]int {
	var l [][]int
	for _, row := range strings.Split(text, "|") {
		l = append(l, numbersIn(row))
	}
	return l
}

// An outline has what all functions of the chapter return for a program, with a
// list for each step; must is empty for steps that are not reachable.
type outline struct {
	reached, leaders, nearest []int
	ahead, must, ends         [][]int
	ways                      []int
}

// checkOutline calls every function for every step.
func checkOutline(t *testing.T, p []impl.Step, want outline) {
	t.Helper()
	for name, l := range map[string][]int{"ReachedIn": want.reached, "LeadersOf": want.leaders, "NearestOf": want.nearest} {
		if got, ok := listsOf[name](p); !slices.Equal(got, l) || !ok {
			t.Fatalf("%s(%v) = %v, %t, want %v, true", name, p, got, ok, l)
		}
	}
	for at := range p {
		for name, l := range map[string][]int{"AheadOf": want.ahead[at], "MustPass": want.must[at], "EndsFrom": want.ends[at]} {
			wantOk := name != "MustPass" || len(l) > 0
			if got, ok := listsAt[name](p, at); !slices.Equal(got, l) || ok != wantOk {
				t.Fatalf("%s(%v, %d) = %v, %t, want %v, %t", name, p, at, got, ok, l, wantOk)
			}
		}
		if n, ok := impl.WayCount(p, at); n != want.ways[at] || !ok {
			t.Fatalf("WayCount(%v, %d) = %d, %t, want %d, true", p, at, n, ok, want.ways[at])
		}
	}
}

// nextsIn returns NextsOf each step of a valid program.
func nextsIn(t *testing.T, p []impl.Step) [][]int {
	t.Helper()
	nexts := make([][]int, len(p))
	for at := range p {
		l, ok := impl.NextsOf(p, at)
		if !ok {
			t.Fatalf("NextsOf(%v, %d) returns false", p, at)
		}
		nexts[at] = l
	}
	return nexts
}

// comesTo repeats, until nothing changes, that what follows a reached step is
// reached. No path goes over the closed step; -1 closes none.
func comesTo(nexts [][]int, start, closed int) []bool {
	reached := make([]bool, len(nexts))
	reached[start] = start != closed
	for changed := true; changed; {
		changed = false
		for at := len(nexts) - 1; at >= 0; at-- {
			for _, next := range nexts[at] {
				if reached[at] && next != closed && !reached[next] {
					reached[next] = true
					changed = true
				}
			}
		}
	}
	return reached
}

func trueOnes(l []bool) []int {
	var indexes []int
	for i, b := range l {
		if b {
			indexes = append(indexes, i)
		}
	}
	return indexes
}

func wantLeaders(p []impl.Step, reached []bool) []int {
	begins := map[int]bool{0: true}
	for at, s := range p {
		if reached[at] && slices.Contains([]int{impl.StJump, impl.StEq, impl.StLess}, s.Kind) {
			begins[at+1] = true
			begins[at+1+s.To] = true
		}
	}
	var leaders []int
	for at := range p {
		if begins[at] && reached[at] {
			leaders = append(leaders, at)
		}
	}
	return leaders
}

// waysBack counts the paths from their end back to step 0.
func waysBack(nexts [][]int, at int) int {
	if at == 0 {
		return 1
	}
	n := 0
	for before := range nexts {
		if slices.Contains(nexts[before], at) {
			n += waysBack(nexts, before)
		}
	}
	return n
}

// nearestIn takes the last but one of each list of dominators.
func nearestIn(must [][]int) []int {
	var nearest []int
	for _, l := range must {
		n := -1
		if len(l) > 1 {
			n = l[len(l)-2]
		}
		nearest = append(nearest, n)
	}
	return nearest
}

// outlineByArcs goes by NextsOf alone: a step is a dominator of another one if
// that is not reached once the step is closed.
func outlineByArcs(t *testing.T, p []impl.Step) outline {
	t.Helper()
	nexts := nextsIn(t, p)
	reached := comesTo(nexts, 0, -1)
	o := outline{reached: trueOnes(reached), leaders: wantLeaders(p, reached)}
	var without [][]bool
	for other := range p {
		without = append(without, comesTo(nexts, 0, other))
	}
	for at := range p {
		var ahead, must, ends []int
		beyond := comesTo(nexts, at, -1)
		for other, s := range p {
			if reached[other] && slices.Contains(nexts[other], at) {
				ahead = append(ahead, other)
			}
			if reached[at] && !without[other][at] {
				must = append(must, other)
			}
			if beyond[other] && s.Kind == impl.StExit {
				ends = append(ends, other)
			}
		}
		o.ahead, o.must, o.ends = append(o.ahead, ahead), append(o.must, must), append(o.ends, ends)
		o.ways = append(o.ways, waysBack(nexts, at))
	}
	o.nearest = nearestIn(o.must)
	return o
}

// pathsFrom lists the paths from a step to an exit.
func pathsFrom(nexts [][]int, at int) [][]int {
	if len(nexts[at]) == 0 {
		return [][]int{{at}}
	}
	var paths [][]int
	for _, next := range nexts[at] {
		for _, rest := range pathsFrom(nexts, next) {
			paths = append(paths, append([]int{at}, rest...))
		}
	}
	return paths
}

func endsIn(paths [][]int) []int {
	var ends []int
	for _, l := range paths {
		ends = withOnce(ends, l[len(l)-1])
	}
	slices.Sort(ends)
	return ends
}

// pathsTo cuts the paths that come to a step behind it, and keeps each once.
func pathsTo(paths [][]int, at int) [][]int {
	var cut [][]int
	seen := map[string]bool{}
	for _, l := range paths {
		i := slices.Index(l, at)
		if i < 0 || seen[fmt.Sprint(l[:i+1])] {
			continue
		}
		seen[fmt.Sprint(l[:i+1])] = true
		cut = append(cut, l[:i+1])
	}
	return cut
}

// onAll returns the steps, in ascending order, that all of the paths pass.
func onAll(paths [][]int) []int {
	var all []int
	for at := range impl.MaxSteps {
		passed := len(paths) > 0
		for _, l := range paths {
			passed = passed && slices.Contains(l, at)
		}
		if passed {
			all = append(all, at)
		}
	}
	return all
}

// outlineByPaths takes all paths from step 0 to an exit. The leaders and ends
// are what it is given.
func outlineByPaths(paths [][]int, leaders []int, ends [][]int) outline {
	o := outline{leaders: leaders, ends: ends}
	for at := range ends {
		cut := pathsTo(paths, at)
		var ahead []int
		for _, l := range cut {
			if len(l) > 1 {
				ahead = withOnce(ahead, l[len(l)-2])
			}
		}
		slices.Sort(ahead)
		if len(cut) > 0 {
			o.reached = append(o.reached, at)
		}
		o.ahead, o.must = append(o.ahead, ahead), append(o.must, onAll(cut))
		o.ways = append(o.ways, len(cut))
	}
	o.nearest = nearestIn(o.must)
	return o
}

// checkFlow compares with the plain calculations, and with a list of all paths
// where they are few. It reports whether they are.
func checkFlow(t *testing.T, p []impl.Step) bool {
	t.Helper()
	byArcs := outlineByArcs(t, p)
	checkOutline(t, p, byArcs)
	if byArcs.ways[len(p)-1] > 40 {
		return false
	}
	nexts := nextsIn(t, p)
	var ends [][]int
	for at := range p {
		ends = append(ends, endsIn(pathsFrom(nexts, at)))
	}
	checkOutline(t, p, outlineByPaths(pathsFrom(nexts, 0), byArcs.leaders, ends))
	return true
}

// A flowCase has the paths from step 0 to an exit, the leaders, the nearest
// dominators, the numbers of paths, and the ends of each step.
type flowCase struct {
	name, program, paths, leaders, nearest, ways, ends string
}

// Promise 11: small programs with their paths written out by hand.
var flowCases = []flowCase{
	{"one step", "x", "0", "0", "-1", "1", "0"},
	{"two steps", ". x", "0 1", "0", "-1 0", "1 1", "1|1"},
	{"all in a row", ". . . x", "0 1 2 3", "0", "-1 0 1 2", "1 1 1 1", "3|3|3|3"},
	{"the program of the document", "e1 . x", "0 1 2|0 2", "0 1 2", "-1 0 0", "1 1 2", "2|2|2"},
	{"a jump over one step", "j1 . x", "0 2", "0 2", "-1 -1 0", "1 0 1", "2|2|2"},
	{"a jump over all", "j3 . . . x", "0 4", "0 4", "-1 -1 -1 -1 0", "1 0 0 0 1", "4|4|4|4|4"},
	{"a branch over all", "l3 . . . x", "0 1 2 3 4|0 4", "0 1 4", "-1 0 1 2 0", "1 1 1 1 2", "4|4|4|4|4"},
	{"a jump that is not the first", ". e1 . x", "0 1 2 3|0 1 3", "0 2 3", "-1 0 1 1", "1 1 1 2", "3|3|3|3"},
	{"two sides", "e2 . j1 . x", "0 1 2 4|0 3 4", "0 1 3 4", "-1 0 1 0 0", "1 1 1 1 2", "4|4|4|4|4"},
	{"two long sides", "e4 . . . j3 . . . x", "0 1 2 3 4 8|0 5 6 7 8", "0 1 5 8",
		"-1 0 1 2 3 0 5 6 0", "1 1 1 1 1 1 1 1 2", "8|8|8|8|8|8|8|8|8"},
	{"nested jumps", "e4 . l1 . . x", "0 1 2 3 4 5|0 1 2 4 5|0 5", "0 1 3 4 5", "-1 0 1 2 2 0", "1 1 1 1 2 3", "5|5|5|5|5|5"},
	{"overlapping jumps", "e2 l2 . . x", "0 1 2 3 4|0 1 4|0 3 4", "0 1 2 3 4", "-1 0 1 0 0", "1 1 1 2 3", "4|4|4|4|4"},
	{"jumps that lead to one step", "e3 l2 e1 . x", "0 1 2 3 4|0 1 2 4|0 1 4|0 4", "0 1 2 3 4", "-1 0 1 2 0", "1 1 1 1 4", "4|4|4|4|4"},
	{"several exits", "e1 x e1 x . x", "0 1|0 2 3|0 2 4 5", "0 1 2 3 4", "-1 0 0 2 2 4", "1 1 1 1 1 1", "1 3 5|1|3 5|3|5|5"},
	{"a target that follows a jump", "e1 j1 . x", "0 1 3|0 2 3", "0 1 2 3", "-1 0 0 0", "1 1 1 2", "3|3|3|3"},
	{"a target that follows a branch", "e1 l1 . x", "0 1 2 3|0 1 3|0 2 3", "0 1 2 3", "-1 0 0 0", "1 1 2 3", "3|3|3|3"},
	{"jumps one behind the other", "e1 . l1 . . x", "0 1 2 3 4 5|0 1 2 4 5|0 2 3 4 5|0 2 4 5", "0 1 2 3 4",
		"-1 0 0 2 2 4", "1 1 2 2 4 4", "5|5|5|5|5|5"},
	{"sides that meet at two steps", "e5 . e2 . j2 . . x", "0 1 2 3 4 7|0 1 2 5 6 7|0 6 7", "0 1 3 5 6 7",
		"-1 0 1 2 3 2 0 0", "1 1 1 1 1 1 2 3", "7|7|7|7|7|7|7|7"},
	{"a jump to a jump", "j2 x j2 j1 x x", "0 3 5", "0 3 5", "-1 -1 -1 0 -1 3", "1 0 0 1 0 1", "5|1|5|5|4|5"},
	{"steps behind an exit", "x . x", "0", "0", "-1 -1 -1", "1 0 0", "0|2|2"},
	{"exits only", "x x x", "0", "0", "-1 -1 -1", "1 0 0", "0|1|2"},
	{"a jump that is not reachable", "j1 l1 . x", "0 2 3", "0 2", "-1 -1 0 2", "1 0 1 1", "3|3|3|3"},
	{"jumps that are not reachable", "x e2 j2 . . x", "0", "0", "-1 -1 -1 -1 -1 -1", "1 0 0 0 0 0", "0|5|5|5|5|5"},
	{"an exit that is not reachable", "e2 . j2 . . x", "0 1 2 5|0 3 4 5", "0 1 3 5", "-1 0 1 0 3 0", "1 1 1 1 1 2", "5|5|5|5|5|5"},
	{"an end that no path comes to", ". e1 x x e1 . x", "0 1 2|0 1 3", "0 2 3", "-1 0 1 1 -1 -1 -1", "1 1 1 1 0 0 0", "2 3|2 3|2|3|6|6|6"},
}

func TestFlowsByHand(t *testing.T) {
	for _, c := range flowCases {
		p := laid(c.program)
		if !impl.GoodProgram(p) {
			t.Fatalf("%s: the program is not valid", c.name)
		}
		want := outlineByPaths(rowsIn(c.paths), numbersIn(c.leaders), rowsIn(c.ends))
		checkOutline(t, p, want)
		want.nearest, want.ways = numbersIn(c.nearest), numbersIn(c.ways)
		checkOutline(t, p, want)
		if !checkFlow(t, p) {
			t.Errorf("%s: many paths", c.name)
		}
	}
}

// Promise 11: what is ahead of a step, dominators and ends, by hand.
func TestStepsOfFlowsByHand(t *testing.T) {
	cases := []struct {
		program           string
		at                int
		ahead, must, ends string
	}{
		{"x", 0, "", "0", "0"},
		{"e1 . x", 0, "", "0", "2"},
		{"e1 . x", 1, "0", "0 1", "2"},
		{"e1 . x", 2, "0 1", "0 2", "2"},
		{". . . x", 3, "2", "0 1 2 3", "3"},
		{"j3 . . . x", 4, "0", "0 4", "4"},
		{"e4 . l1 . . x", 4, "2 3", "0 1 2 4", "5"},
		{"e4 . l1 . . x", 5, "0 4", "0 5", "5"},
		{"e2 l2 . . x", 3, "0 2", "0 3", "4"},
		{"e2 l2 . . x", 4, "1 3", "0 4", "4"},
		{"e3 l2 e1 . x", 4, "0 1 2 3", "0 4", "4"},
		{"e1 x e1 x . x", 0, "", "0", "1 3 5"},
		{"e1 x e1 x . x", 2, "0", "0 2", "3 5"},
		{"e1 x e1 x . x", 3, "2", "0 2 3", "3"},
		{"e1 x e1 x . x", 5, "4", "0 2 4 5", "5"},
		{"e1 . l1 . . x", 5, "4", "0 2 4 5", "5"},
		{"j1 l1 . x", 2, "0", "0 2", "3"},
		{"j1 l1 . x", 3, "2", "0 2 3", "3"},
		{". . e3 . e3 x . . e1 . x", 10, "8 9", "0 1 2 8 10", "10"},
	}
	for _, c := range cases {
		p := laid(c.program)
		for name, text := range map[string]string{"AheadOf": c.ahead, "MustPass": c.must, "EndsFrom": c.ends} {
			if l, ok := listsAt[name](p, c.at); !slices.Equal(l, numbersIn(text)) || !ok {
				t.Errorf("%s of %s at %d = %v, %t, want %s, true", name, c.program, c.at, l, ok, text)
			}
		}
	}
}

// Steps that are not reachable are in no result, have no dominators and no
// paths; only EndsFrom begins at them.
func TestStepsThatAreNotReachable(t *testing.T) {
	cases := []struct {
		name, program string
		at            int
		ends          string
	}{
		{"behind an exit", "x . x", 1, "2"},
		{"far behind an exit", "x . . . x", 4, "4"},
		{"an exit behind an exit", "x x", 1, "1"},
		{"behind a jump that passes it", "j1 . x", 1, "2"},
		{"an exit behind a jump that passes it", "j1 x x", 1, "1"},
		{"the last step that a jump passes", "j3 . . x x", 3, "3"},
		{"behind a jump on one of two sides", "e3 . j3 . . . x", 3, "6"},
		{"the target of a jump that is not reachable", "x j1 . . x", 3, "4"},
		{"the branch that is not reachable itself", "x e2 x . x x", 1, "2 4"},
		{"behind a branch that is not reachable", "x e2 x . x x", 2, "2"},
		{"the target of a branch that is not reachable", "x e2 x . x x", 4, "4"},
		{"the target of jumps none of which is reachable", "x l2 l1 . . x", 4, "5"},
		{"a jump behind a jump", "j1 j1 . x", 1, "3"},
		{"a branch that leads to reachable steps", "j1 e1 . x", 1, "3"},
	}
	for _, c := range cases {
		p := laid(c.program)
		for name, call := range listsOf {
			l, ok := call(p)
			if name == "NearestOf" {
				if !ok || len(l) != len(p) || l[c.at] != -1 || slices.Contains(l, c.at) {
					t.Errorf("%s: NearestOf = %v, %t", c.name, l, ok)
				}
			} else if slices.Contains(l, c.at) || !ok {
				t.Errorf("%s: %s = %v, %t", c.name, name, l, ok)
			}
		}
		for other := range p {
			if l, ok := impl.AheadOf(p, other); slices.Contains(l, c.at) || !ok {
				t.Errorf("%s: AheadOf(p, %d) = %v, %t", c.name, other, l, ok)
			}
			if l, _ := impl.MustPass(p, other); slices.Contains(l, c.at) {
				t.Errorf("%s: MustPass(p, %d) = %v", c.name, other, l)
			}
		}
		if l, ok := impl.AheadOf(p, c.at); len(l) != 0 || !ok {
			t.Errorf("%s: AheadOf = %v, %t", c.name, l, ok)
		}
		if l, ok := impl.MustPass(p, c.at); len(l) != 0 || ok {
			t.Errorf("%s: MustPass = %v, %t", c.name, l, ok)
		}
		if n, ok := impl.WayCount(p, c.at); n != 0 || !ok {
			t.Errorf("%s: WayCount = %d, %t", c.name, n, ok)
		}
		if l, ok := impl.EndsFrom(p, c.at); !slices.Equal(l, numbersIn(c.ends)) || !ok {
			t.Errorf("%s: EndsFrom = %v, %t, want %s", c.name, l, ok, c.ends)
		}
		checkFlow(t, p)
	}
}

// Programs of 20 steps with as many jumps as fit: step 18 has no room for one.
func TestMostJumps(t *testing.T) {
	rest := " . x"
	cases := []struct{ name, program, ways string }{
		{"each over one step", strings.Repeat("e1 ", 18) + rest,
			"1 1 2 3 5 8 13 21 34 55 89 144 233 377 610 987 1597 2584 4181 6765"},
		{"each over one or two steps", strings.Repeat("l1 e2 ", 8) + "l1 e1" + rest,
			"1 1 2 2 5 5 12 12 29 29 70 70 169 169 408 408 985 985 2378 3363"},
		{"each to the last step", "e18 e17 e16 e15 e14 e13 e12 e11 e10 l9 l8 l7 l6 l5 l4 l3 l2 l1" + rest,
			"1 1 1 1 1 1 1 1 1 1 1 1 1 1 1 1 1 1 1 19"},
		{"each to the last step but one", "e17 e16 e15 e14 e13 e12 e11 e10 e9 l8 l7 l6 l5 l4 l3 l2 l1 ." + rest,
			"1 1 1 1 1 1 1 1 1 1 1 1 1 1 1 1 1 1 18 18"},
		{"jumps only", strings.Repeat("j1 ", 18) + rest,
			"1 0 1 0 1 0 1 0 1 0 1 0 1 0 1 0 1 0 1 1"},
		{"one over all", "j18 " + strings.Repeat("e1 ", 17) + rest,
			"1 0 0 0 0 0 0 0 0 0 0 0 0 0 0 0 0 0 0 1"},
		{"none", strings.Repeat(". ", 19) + "x",
			"1 1 1 1 1 1 1 1 1 1 1 1 1 1 1 1 1 1 1 1"},
	}
	for _, c := range cases {
		p := laid(c.program)
		if len(p) != impl.MaxSteps || !impl.GoodProgram(p) {
			t.Fatalf("%s: the program is not valid", c.name)
		}
		for at, want := range numbersIn(c.ways) {
			if n, ok := impl.WayCount(p, at); n != want || !ok {
				t.Errorf("%s: WayCount(p, %d) = %d, %t, want %d, true", c.name, at, n, ok, want)
			}
		}
		checkFlow(t, p)
	}
}

// eachFlow visits the programs of a size, with every kind of jump from every
// step but the last to every step that it can lead to.
func eachFlow(size int, ahead []impl.Step, visit func(p []impl.Step)) {
	at := len(ahead)
	if at == size-1 {
		visit(append(ahead[:at:at], impl.Step{Kind: impl.StExit}))
		return
	}
	steps := []impl.Step{{Kind: impl.StStore}, {Kind: impl.StExit}}
	for to := 1; at+to+1 < size; to++ {
		steps = append(steps, impl.Step{Kind: impl.StJump, To: to}, impl.Step{Kind: impl.StEq, To: to}, impl.Step{Kind: impl.StLess, To: to})
	}
	for _, s := range steps {
		eachFlow(size, append(ahead[:at:at], s), visit)
	}
}

func TestEverySmallFlow(t *testing.T) {
	visited := 0
	for size := 1; size <= 6; size++ {
		eachFlow(size, nil, func(p []impl.Step) {
			if !checkFlow(t, p) {
				t.Fatalf("%v has many paths", p)
			}
			visited++
		})
	}
	if visited != 1+2+2*5+2*5*8+2*5*8*11+2*5*8*11*14 {
		t.Errorf("%d programs", visited)
	}
}

// Every jump, and every exit, alone among steps of all kinds that go on.
func TestOneJumpAnywhere(t *testing.T) {
	straight := []int{impl.StOp, impl.StOpImm, impl.StSet, impl.StWide, impl.StCtx, impl.StLoad, impl.StStore}
	for _, size := range []int{1, 2, 3, 7, 20} {
		p := make([]impl.Step, size)
		for i := range p {
			row, _ := rowOf(straight[i%len(straight)])
			p[i] = endSteps(row)[0]
		}
		p[size-1] = impl.Step{Kind: impl.StExit}
		checkFlow(t, p)
		for at := range size - 1 {
			for _, kind := range []int{impl.StJump, impl.StEq, impl.StLess} {
				for to := 1; at+to+1 < size; to++ {
					q := slices.Clone(p)
					q[at] = impl.Step{Kind: kind, To: to}
					checkFlow(t, q)
				}
			}
			q := slices.Clone(p)
			q[at] = impl.Step{Kind: impl.StExit}
			checkFlow(t, q)
		}
	}
}

// jumpyProgram is a program of which most steps are jumps, most of them short,
// and the others read the context or set a register.
func jumpyProgram(g *lcg, size int) []impl.Step {
	p := make([]impl.Step, size)
	for i := range p {
		far := size - 2 - i
		p[i] = impl.Step{Kind: impl.StCtx, Dst: g.below(3), Src: 5, Imm: g.below(8)}
		switch n := g.below(20); {
		case i == size-1 || n == 0:
			p[i] = impl.Step{Kind: impl.StExit}
		case n < 3:
			p[i] = impl.Step{Kind: impl.StSet, Dst: g.below(3), Imm: g.below(2)}
		case far > 0 && n < 5:
			p[i] = impl.Step{Kind: impl.StJump, To: 1 + g.below(min(far, 3))}
		case far > 0 && n < 15:
			p[i] = impl.Step{Kind: impl.StEq + n%2, Dst: g.below(4), Src: g.below(4), To: 1 + g.below(min(far, 1+g.below(6)))}
		}
	}
	return p
}

func TestSomeFlows(t *testing.T) {
	g := lcg(110)
	few, many, cut := 0, 0, 0
	for i := range 900 {
		p := someProgram(&g)
		if i%3 > 0 {
			p = jumpyProgram(&g, 1+g.below(impl.MaxSteps))
		}
		if checkFlow(t, p) {
			few++
		} else {
			many++
		}
		if l, _ := impl.ReachedIn(p); len(l) < len(p) {
			cut++
		}
	}
	if few < 200 || many < 20 || cut < 200 {
		t.Errorf("few paths: %d, many paths: %d, steps that are not reachable: %d", few, many, cut)
	}
}

// checkPassed is promise 11 for one run: at each step that it comes to, it has
// passed the dominators, and by then it has come to all that is required of it.
func checkPassed(t *testing.T, p []impl.Step, ctx []int) []int {
	t.Helper()
	begun, code, ok := impl.TraceOf(p, ctx)
	if !ok {
		t.Fatalf("TraceOf(%v, %v) returns false", p, ctx)
	}
	reached, _ := impl.ReachedIn(p)
	for i, at := range begun {
		must, ok := impl.MustPass(p, at)
		if !ok || !slices.Contains(reached, at) {
			t.Fatalf("MustPass(%v, %d) = %v, %t, ReachedIn returns %v, but the run %v comes to the step", p, at, must, ok, reached, begun)
		}
		for _, d := range must {
			if !slices.Contains(begun[:i+1], d) {
				t.Fatalf("MustPass(%v, %d) = %v, but a run goes %v", p, at, must, begun[:i+1])
			}
		}
		if ahead, _ := impl.AheadOf(p, at); i > 0 && !slices.Contains(ahead, begun[i-1]) {
			t.Fatalf("AheadOf(%v, %d) = %v, but a run goes %v", p, at, ahead, begun[:i+1])
		}
		if n, _ := impl.WayCount(p, at); n < 1 {
			t.Fatalf("WayCount(%v, %d) = %d, but a run goes %v", p, at, n, begun[:i+1])
		}
		last := begun[len(begun)-1]
		if ends, _ := impl.EndsFrom(p, at); code == 0 && !slices.Contains(ends, last) {
			t.Fatalf("EndsFrom(%v, %d) = %v, but a run goes %v", p, at, ends, begun)
		}
	}
	return begun
}

// Promise 11: every run that comes to a step, also to one that faults or for
// which there is no fuel left, has passed its dominators.
func TestRunsPassDominators(t *testing.T) {
	g := lcg(111)
	faults, forks := 0, 0
	for i := range 500 {
		p := jumpyProgram(&g, 4+g.below(17))
		if i%3 == 0 {
			p = tameProgram(&g)
		}
		met := map[string]bool{}
		for range 12 {
			ctx := someContext(&g)
			begun := checkPassed(t, p, ctx)
			met[fmt.Sprint(begun)] = true
			_, code, at, _ := impl.RunProgram(p, ctx, g.below(21))
			if code == 0 {
				continue
			}
			faults++
			must, ok := impl.MustPass(p, at)
			for _, d := range must {
				if d != at && !slices.Contains(begun[:slices.Index(begun, at)], d) {
					t.Fatalf("MustPass(%v, %d) = %v, but a run goes %v", p, at, must, begun)
				}
			}
			if !ok {
				t.Fatalf("MustPass(%v, %d) returns false, but a run goes %v", p, at, begun)
			}
		}
		if len(met) > 1 {
			forks++
		}
	}
	if faults < 500 || forks < 60 {
		t.Errorf("%d faults, %d programs with several paths that are run", faults, forks)
	}
}

// forkedProgram has that many forks, each of which reads its own element of the
// context first. Jumps lead to no place within a fork, so that for each path
// there is a context.
func forkedProgram(g *lcg, forks int) []impl.Step {
	var sizes []int
	for range forks {
		sizes = append(sizes, 2)
	}
	for range g.below(3) {
		sizes = slices.Insert(sizes, g.below(len(sizes)+1), 1)
	}
	sizes = append(sizes, 1, 1)
	starts := []int{0}
	for i, n := range sizes[:len(sizes)-1] {
		starts = append(starts, starts[i]+n)
	}
	var p []impl.Step
	read := 0
	for i, n := range sizes {
		far := starts[min(i+2+g.below(3), len(starts)-1)]
		switch {
		case n == 2:
			p = append(p, impl.Step{Kind: impl.StCtx, Dst: 1, Src: 5, Imm: read})
			s := impl.Step{Kind: impl.StEq, Dst: 1, Src: 5, To: far - len(p) - 1}
			if g.below(2) == 0 {
				s = impl.Step{Kind: impl.StLess, Dst: 5, Src: 1, To: s.To}
			}
			p = append(p, s)
			read++
		case i == len(sizes)-1 || i < len(sizes)-2 && g.below(2) == 0:
			p = append(p, impl.Step{Kind: impl.StExit})
		case i < len(sizes)-2:
			p = append(p, impl.Step{Kind: impl.StJump, To: far - len(p) - 1})
		default:
			p = append(p, impl.Step{Kind: impl.StSet, Dst: 2, Imm: 5})
		}
	}
	return p
}

// Promise 11: where every path is taken by some run, the dominators are exactly
// what the runs have in common, and there are as many paths as runs.
func TestRunsOfEveryPath(t *testing.T) {
	g := lcg(112)
	for i := range 90 {
		forks := i % 9
		p := forkedProgram(&g, forks)
		var paths [][]int
		for n := range 1 << forks {
			ctx := make([]int, impl.CtxSize)
			for k := range forks {
				ctx[k] = n >> k & 1 * (1 + g.below(255))
			}
			begun, code, ok := impl.TraceOf(p, ctx)
			if code != 0 || !ok {
				t.Fatalf("TraceOf(%v, %v) = %v, %d, %t", p, ctx, begun, code, ok)
			}
			paths = append(paths, begun)
		}
		byArcs := outlineByArcs(t, p)
		checkOutline(t, p, outlineByPaths(paths, byArcs.leaders, byArcs.ends))
	}
}

// wantNoFlow checks that every function returns its zero result for a program
// that is not valid, whatever the step is.
func wantNoFlow(t *testing.T, name string, p []impl.Step, steps []int) {
	t.Helper()
	for f, call := range listsOf {
		if l, ok := call(p); len(l) != 0 || ok {
			t.Errorf("%s of %s = %v, %t", f, name, l, ok)
		}
	}
	for _, at := range steps {
		wantNoStep(t, name, p, at)
	}
}

func wantNoStep(t *testing.T, name string, p []impl.Step, at int) {
	t.Helper()
	for f, call := range listsAt {
		if l, ok := call(p, at); len(l) != 0 || ok {
			t.Errorf("%s of %s at %d = %v, %t", f, name, at, l, ok)
		}
	}
	if n, ok := impl.WayCount(p, at); n != 0 || ok {
		t.Errorf("WayCount of %s at %d = %d, %t", name, at, n, ok)
	}
}

// Promise 19: programs that are not valid.
func TestFlowsOfBadPrograms(t *testing.T) {
	for name, p := range badPrograms() {
		before := slices.Clone(p)
		wantNoFlow(t, name, p, oddNumbers)
		if !slices.Equal(p, before) {
			t.Errorf("%s became %v", name, p)
		}
	}
}

// Promise 19: a fault of a step counts wherever the step is, also where no path
// comes to it.
func TestFlowsWithABadStep(t *testing.T) {
	for _, c := range flowCases {
		for at := range laid(c.program) {
			for _, bad := range []impl.Step{{}, {Kind: 12}, {Kind: impl.StJump}, {Kind: impl.StJump, To: -1}, {Kind: impl.StEq, To: 19}, {Kind: impl.StExit, To: 1}, {Kind: impl.StSet, Dst: 6}} {
				p := laid(c.program)
				p[at] = bad
				wantNoFlow(t, fmt.Sprint(p), p, []int{0, at, len(p) - 1})
			}
		}
	}
}

// Promise 19: steps with odd fields; the functions answer exactly if the
// program is valid.
func TestFlowsOfOddSteps(t *testing.T) {
	good := 0
	for _, row := range kindRows {
		for _, s := range endSteps(row) {
			for i := range 5 {
				for _, n := range oddNumbers {
					f := fieldsOfStep(s)
					f[i] = n
					p := hold(stepOfFields(s.Kind, f))
					if !wantGoodProgram(p) {
						wantNoFlow(t, fmt.Sprint(p[0]), p, []int{0, 1, 19})
						continue
					}
					good++
					nexts, _ := impl.NextsOf(p, 0)
					if l, ok := impl.ReachedIn(p); !slices.Equal(l, append([]int{0}, nexts...)) || !ok {
						t.Fatalf("ReachedIn(%v) = %v, %t", p, l, ok)
					}
				}
			}
		}
	}
	if good == 0 {
		t.Error("no program was valid")
	}
}

// Promise 19: an index outside the program gives the zero result.
func TestStepsOutsideOfFlows(t *testing.T) {
	far := append([]int{-20, 3, 9, 1<<32 + 2, math.MinInt + 2, math.MaxInt - 19}, oddNumbers...)
	for _, text := range []string{"x", "e1 . x", "j1 . x", "x . x", strings.Repeat("e1 ", 18) + ". x"} {
		p := laid(text)
		for _, at := range far {
			if at < 0 || at >= len(p) {
				wantNoStep(t, text, p, at)
			}
		}
		for at := range p {
			for f, call := range listsAt {
				if _, ok := call(p, at); !ok && f != "MustPass" {
					t.Errorf("%s of %s at %d returns false", f, text, at)
				}
			}
		}
	}
}

// Promise 19: what is behind the length of a program neither completes it nor
// spoils it.
func TestFlowsBehindTheLength(t *testing.T) {
	all := append(laid("j1 x x"), impl.Step{Kind: 77})
	for size := range 5 {
		p := all[:size]
		if size == 3 {
			checkFlow(t, p)
			wantNoStep(t, "3 steps", p, 3)
		} else {
			wantNoFlow(t, fmt.Sprint(size, " steps"), p, []int{0, 1, 2, 3})
		}
	}
}

// allLists calls every function of the chapter and returns the lists.
func allLists(p []impl.Step) [][]int {
	var lists [][]int
	keep := func(l []int, _ bool) { lists = append(lists, l) }
	keep(impl.ReachedIn(p))
	keep(impl.LeadersOf(p))
	keep(impl.NearestOf(p))
	for at := -1; at <= len(p); at++ {
		keep(impl.AheadOf(p, at))
		keep(impl.MustPass(p, at))
		keep(impl.EndsFrom(p, at))
		impl.WayCount(p, at)
	}
	return lists
}

// Promise 19: no argument is changed, up to the capacity of its memory.
func TestFlowArgumentsAreNotChanged(t *testing.T) {
	g := lcg(113)
	for i := range 400 {
		p := append(jumpyProgram(&g, 1+g.below(20)), impl.Step{Kind: 99, To: -1}, impl.Step{Kind: impl.StExit})
		if i%3 == 0 {
			p[g.below(len(p))].Imm = oddNumbers[g.below(len(oddNumbers))]
		}
		before := slices.Clone(p)
		allLists(p[:len(p)-2])
		allLists(p)
		if !slices.Equal(p, before) {
			t.Fatalf("%v became %v", before, p)
		}
	}
}

// Promise 19: the lists share no memory with the program, with each other or
// with those of another call.
func TestFlowListsAreNewMemory(t *testing.T) {
	g := lcg(114)
	for range 60 {
		p := jumpyProgram(&g, 1+g.below(20))
		before := slices.Clone(p)
		lists := allLists(p)
		want := cloneClauses(lists)
		for i, l := range lists {
			for k := range l[:cap(l)] {
				l[:cap(l)][k] = -7
			}
			for j := i + 1; j < len(lists); j++ {
				if !slices.Equal(lists[j], want[j]) {
					t.Fatalf("two lists of %v share memory: %v became %v", p, want[j], lists[j])
				}
			}
		}
		for i, l := range allLists(p) {
			if !slices.Equal(l, want[i]) {
				t.Fatalf("two results share memory: %v became %v", want[i], l)
			}
		}
		if !slices.Equal(p, before) {
			t.Fatalf("a result of %v shares its memory", before)
		}
	}
}
