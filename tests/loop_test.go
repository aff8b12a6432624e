package tests

import (
	"fmt"
	"math"
	"slices"
	"strconv"
	"strings"
	"sync"
	"testing"

	"loop.example/g00605/impl"
)

// A loop is a graph as the functions of the chapter take it.
type loop struct {
	spots int
	arcs  []impl.Arc
}

// arcsIn reads arcs such as 0-1 1-0.
func arcsIn(text string) []impl.Arc {
	var l []impl.Arc
	for _, word := range strings.Fields(text) {
		from, to, _ := strings.Cut(word, "-")
		a, err := strconv.Atoi(from)
		b, err2 := strconv.Atoi(to)
		if err != nil || err2 != nil {
			panic(word)
		}
		l = append(l, impl.Arc{From: a, To: b})
	}
	return l
}

// allArcs returns the arcs between so many vertices, in order.
func allArcs(spots int) []impl.Arc {
	var l []impl.Arc
	for i := range spots * spots {
		l = append(l, impl.Arc{From: i / spots, To: i % spots})
	}
	return l
}

// arcsBut leaves out the arcs of vertices to themselves.
func arcsBut(spots int) []impl.Arc {
	return slices.DeleteFunc(allArcs(spots), func(a impl.Arc) bool { return a.From == a.To })
}

func textOfArcs(l []impl.Arc) string {
	var words []string
	for _, a := range l {
		words = append(words, fmt.Sprintf("%d-%d", a.From, a.To))
	}
	return strings.Join(words, " ")
}

// A trail is a list of vertices or of their numbers, with zeros behind them.
type trail [impl.MaxLayers + 1]int

// walksIn lists the walks of so many vertices in ascending order, longer ones
// from shorter ones.
func walksIn(g loop, long int) []trail {
	var walks []trail
	for s := range g.spots {
		walks = append(walks, trail{s})
	}
	for k := 1; k < long; k++ {
		var longer []trail
		for _, w := range walks {
			for _, a := range g.arcs {
				if a.From == w[k-1] {
					w[k] = a.To
					longer = append(longer, w)
				}
			}
		}
		walks = longer
	}
	return walks
}

// pathsThrough lists, in ascending order, the paths along laid arcs from the
// first layer to the last one.
func pathsThrough(laid []impl.Arc, spots, layers int) []trail {
	var paths []trail
	var follow func(path trail, long int)
	follow = func(path trail, long int) {
		at := path[long-1]
		if at >= (layers-1)*spots {
			paths = append(paths, path)
			return
		}
		if long == layers {
			return
		}
		for _, a := range laid {
			if a.From == at {
				path[long] = a.To
				follow(path, long+1)
			}
		}
	}
	for s := range spots {
		follow(trail{s}, 1)
	}
	return paths
}

// followsArcs reports whether there is an arc from each number to the next one.
func followsArcs(l []impl.Arc, numbers []int) bool {
	for k := 1; k < len(numbers); k++ {
		found := false
		for _, a := range l {
			found = found || a.From == numbers[k-1] && a.To == numbers[k]
		}
		if !found {
			return false
		}
	}
	return true
}

// checkWalks is promise 12 for one number of layers: the walks with as many
// vertices, listed over the arcs of the graph, are the paths that are listed
// over the laid arcs. It returns the walks.
func checkWalks(t *testing.T, g loop, layers int) []trail {
	t.Helper()
	laid, ok := impl.LayOut(g.spots, g.arcs, layers)
	if !ok {
		t.Fatalf("LayOut(%d, %v, %d) returns false", g.spots, g.arcs, layers)
	}
	walks, paths := walksIn(g, layers), pathsThrough(laid, g.spots, layers)
	if len(walks) != len(paths) {
		t.Fatalf("%d vertices, %v: %d walks of %d vertices, %d paths", g.spots, g.arcs, len(walks), layers, len(paths))
	}
	for i, w := range walks {
		walk, path := w[:layers], paths[i][:layers]
		if numbers, ok := impl.LaidWalk(g.spots, walk); !slices.Equal(numbers, path) || !ok {
			t.Fatalf("LaidWalk(%d, %v) = %v, %t, want %v, true", g.spots, walk, numbers, ok, path)
		}
		if is, ok := impl.IsWalk(g.spots, g.arcs, walk); !is || !ok {
			t.Fatalf("IsWalk(%d, %v, %v) = %t, %t", g.spots, g.arcs, walk, is, ok)
		}
	}
	return walks
}

// checkList is promise 12 for one list of vertices, a walk or not.
func checkList(t *testing.T, g loop, laid []impl.Arc, list []int) bool {
	t.Helper()
	want := followsArcs(g.arcs, list)
	if is, ok := impl.IsWalk(g.spots, g.arcs, list); is != want || !ok {
		t.Fatalf("IsWalk(%d, %v, %v) = %t, %t, want %t, true", g.spots, g.arcs, list, is, ok, want)
	}
	numbers, ok := impl.LaidWalk(g.spots, list)
	if !ok || len(numbers) != len(list) {
		t.Fatalf("LaidWalk(%d, %v) = %v, %t", g.spots, list, numbers, ok)
	}
	if followsArcs(laid, numbers) != want {
		t.Fatalf("%d vertices, %v: the list %v is a walk: %t, but its numbers are %v in %v", g.spots, g.arcs, list, want, numbers, laid)
	}
	return want
}

// eachList visits the lists of so many vertices.
func eachList(spots, long int, visit func(list []int)) {
	list := make([]int, long)
	for {
		visit(list)
		k := long - 1
		for k >= 0 && list[k] == spots-1 {
			list[k] = 0
			k--
		}
		if k < 0 {
			return
		}
		list[k]++
	}
}

// checkLists visits every list of so many vertices if they are few, and some of
// them otherwise, half of them a walk in which one vertex is another one.
func checkLists(t *testing.T, r *lcg, g loop, layers int, walks []trail) {
	t.Helper()
	laid, _ := impl.LayOut(g.spots, g.arcs, layers)
	if math.Pow(float64(g.spots), float64(layers)) <= 300 {
		found := 0
		eachList(g.spots, layers, func(list []int) {
			if checkList(t, g, laid, list) {
				found++
			}
		})
		if found != len(walks) {
			t.Fatalf("%d vertices, %v: %d walks of %d vertices, %d lists are one", g.spots, g.arcs, len(walks), layers, found)
		}
		return
	}
	for i := range 60 {
		var list trail
		for k := range layers {
			list[k] = r.below(g.spots)
		}
		if i%2 == 0 && len(walks) > 0 {
			list = walks[r.below(len(walks))]
			list[r.below(layers)] = r.below(g.spots)
		}
		checkList(t, g, laid, list[:layers])
	}
}

// checkPromise is promise 12 for each number of layers.
func checkPromise(t *testing.T, r *lcg, g loop) {
	t.Helper()
	for layers := 1; layers <= impl.MaxLayers; layers++ {
		checkLists(t, r, g, layers, checkWalks(t, g, layers))
	}
}

// wantLaid goes by the place of an arc in the list: as many arcs as the graph
// has are between two layers.
func wantLaid(g loop, layers int) []impl.Arc {
	var laid []impl.Arc
	for i := range len(g.arcs) * (layers - 1) {
		k, a := i/len(g.arcs), g.arcs[i%len(g.arcs)]
		laid = append(laid, impl.Arc{From: a.From + g.spots*k, To: a.To + g.spots*k + g.spots})
	}
	return laid
}

func checkLayOut(t *testing.T, g loop, layers int, want []impl.Arc) {
	t.Helper()
	if laid, ok := impl.LayOut(g.spots, g.arcs, layers); !slices.Equal(laid, want) || !ok {
		t.Fatalf("LayOut(%d, %v, %d) = %v, %t, want %v, true", g.spots, g.arcs, layers, laid, ok, want)
	}
}

// wantReach takes up, so many times, what an arc leads to from the vertices so
// far.
func wantReach(g loop, from, most int) []bool {
	reached := make([]bool, g.spots)
	reached[from] = true
	for range most {
		further := slices.Clone(reached)
		for _, a := range g.arcs {
			if reached[a.From] {
				further[a.To] = true
			}
		}
		reached = further
	}
	return reached
}

func wantEnough(g loop, from int) int {
	k := 0
	for !slices.Equal(wantReach(g, from, k), wantReach(g, from, k+1)) {
		k++
	}
	return k
}

// wantBack closes the arcs over one vertex in between after the other.
func wantBack(g loop) []int {
	var closed [impl.MaxSpots][impl.MaxSpots]bool
	for _, a := range g.arcs {
		closed[a.From][a.To] = true
	}
	for k := range g.spots {
		for i := range g.spots {
			for j := range g.spots {
				closed[i][j] = closed[i][j] || closed[i][k] && closed[k][j]
			}
		}
	}
	var back []int
	for i, a := range g.arcs {
		if a.From == a.To || closed[a.To][a.From] {
			back = append(back, i)
		}
	}
	return back
}

// walksBetween multiplies the table of arcs with itself: the number of walks of
// so many vertices from one to another one.
func walksBetween(g loop, long int) [][]int {
	counts := make([][]int, g.spots)
	for i := range counts {
		counts[i] = make([]int, g.spots)
		counts[i][i] = 1
	}
	for range long - 1 {
		product := make([][]int, g.spots)
		for i := range product {
			product[i] = make([]int, g.spots)
			for j := range g.spots {
				for k := range g.spots {
					if slices.Contains(g.arcs, impl.Arc{From: i, To: k}) {
						product[i][j] += counts[k][j]
					}
				}
			}
		}
		counts = product
	}
	return counts
}

func checkBack(t *testing.T, g loop, want []int) {
	t.Helper()
	if back, ok := impl.BackArcs(g.spots, g.arcs); !slices.Equal(back, want) || !ok {
		t.Fatalf("BackArcs(%d, %v) = %v, %t, want %v, true", g.spots, g.arcs, back, ok, want)
	}
}

func checkReach(t *testing.T, g loop, from, most int, want []int) {
	t.Helper()
	if reached, ok := impl.ReachWithin(g.spots, g.arcs, from, most); !slices.Equal(reached, want) || !ok {
		t.Fatalf("ReachWithin(%d, %v, %d, %d) = %v, %t, want %v, true", g.spots, g.arcs, from, most, reached, ok, want)
	}
}

func checkEnough(t *testing.T, g loop, from, want int) {
	t.Helper()
	if k, ok := impl.EnoughFor(g.spots, g.arcs, from); k != want || !ok {
		t.Fatalf("EnoughFor(%d, %v, %d) = %d, %t, want %d, true", g.spots, g.arcs, from, k, ok, want)
	}
}

func checkWalksOf(t *testing.T, g loop, from, to, long, want int) {
	t.Helper()
	if n, ok := impl.WalksOf(g.spots, g.arcs, from, to, long); n != want || !ok {
		t.Fatalf("WalksOf(%d, %v, %d, %d, %d) = %d, %t, want %d, true", g.spots, g.arcs, from, to, long, n, ok, want)
	}
}

// checkByArcs compares with the plain calculations.
func checkByArcs(t *testing.T, g loop) {
	t.Helper()
	if !impl.GoodArcs(g.spots, g.arcs) {
		t.Fatalf("GoodArcs(%d, %v) = false", g.spots, g.arcs)
	}
	checkBack(t, g, wantBack(g))
	for layers := 1; layers <= impl.MaxLayers; layers++ {
		checkLayOut(t, g, layers, wantLaid(g, layers))
		counts := walksBetween(g, layers)
		for from := range g.spots {
			for to := range g.spots {
				checkWalksOf(t, g, from, to, layers, counts[from][to])
			}
		}
	}
	for from := range g.spots {
		checkEnough(t, g, from, wantEnough(g, from))
		for most := 0; most <= impl.MaxLayers; most++ {
			checkReach(t, g, from, most, trueOnes(wantReach(g, from, most)))
		}
	}
}

// A listing has the walks of 1..9 vertices of a graph, by their vertices.
type listing [impl.MaxLayers + 1][]trail

// listWalks reports whether the walks are few.
func listWalks(g loop) (listing, bool) {
	var all listing
	for k := range all {
		all[k] = walksIn(g, k+1)
		if len(all[k]) > 400 {
			return all, false
		}
	}
	return all, true
}

// endsWithin returns the last vertices of the walks from a vertex over at most
// so many arcs.
func endsWithin(all listing, from, most int) []int {
	var ends []int
	for k := range most + 1 {
		for _, w := range all[k] {
			if w[0] == from {
				ends = withOnce(ends, w[k])
			}
		}
	}
	slices.Sort(ends)
	return ends
}

// onCycles takes the walks that begin with an arc and come back to where it
// begins.
func onCycles(g loop, all listing) []int {
	var back []int
	for i, a := range g.arcs {
		for k := 1; k < len(all); k++ {
			for _, w := range all[k] {
				if w[0] == a.From && w[1] == a.To && w[k] == a.From {
					back = withOnce(back, i)
				}
			}
		}
	}
	return back
}

// checkByWalks compares with the listed walks where they are few. It reports
// whether they are.
func checkByWalks(t *testing.T, g loop) bool {
	t.Helper()
	all, few := listWalks(g)
	if !few {
		return false
	}
	checkBack(t, g, onCycles(g, all))
	for from := range g.spots {
		enough := 0
		for most := range all {
			ends := endsWithin(all, from, most)
			checkReach(t, g, from, most, ends)
			if most > 0 && len(ends) > len(endsWithin(all, from, most-1)) {
				enough = most
			}
		}
		checkEnough(t, g, from, enough)
		for to := range g.spots {
			for k := range impl.MaxLayers {
				n := 0
				for _, w := range all[k] {
					if w[0] == from && w[k] == to {
						n++
					}
				}
				checkWalksOf(t, g, from, to, k+1, n)
			}
		}
	}
	return true
}

// A loopCase has the indexes of the arcs on a cycle, the least numbers of arcs
// from each vertex to each one (-1 if there is no way), and the numbers of all
// walks of 1..8 vertices.
type loopCase struct {
	name, arcs, back, needed, walks string
}

// graph counts the vertices by the lists of needed.
func (c loopCase) graph() loop {
	return loop{spots: len(rowsIn(c.needed)), arcs: arcsIn(c.arcs)}
}

// upTo30 are the indexes of 30 arcs.
const upTo30 = "0 1 2 3 4 5 6 7 8 9 10 11 12 13 14 15 16 17 18 19 20 21 22 23 24 25 26 27 28 29"

var loopCases = []loopCase{
	{"one vertex", "", "", "0", "1 0 0 0 0 0 0 0"},
	{"one vertex with an arc to itself", "0-0", "0", "0", "1 1 1 1 1 1 1 1"},
	{"two vertices", "", "", "0 -1|-1 0", "2 0 0 0 0 0 0 0"},
	{"one arc", "0-1", "", "0 1|-1 0", "2 1 0 0 0 0 0 0"},
	{"one arc back", "1-0", "", "0 -1|1 0", "2 1 0 0 0 0 0 0"},
	{"the graph of the document", "0-1 1-0", "0 1", "0 1|1 0", "2 2 2 2 2 2 2 2"},
	{"an arc to itself and one away", "0-0 0-1", "0", "0 1|-1 0", "2 2 2 2 2 2 2 2"},
	{"an arc to itself and one to it", "0-1 1-1", "1", "0 1|-1 0", "2 2 2 2 2 2 2 2"},
	{"all arcs of two vertices", "0-0 0-1 1-0 1-1", "0 1 2 3", "0 1|1 0", "2 4 8 16 32 64 128 256"},
	{"one arc among six vertices", "2-4", "", "0 -1 -1 -1 -1 -1|-1 0 -1 -1 -1 -1|-1 -1 0 -1 1 -1|-1 -1 -1 0 -1 -1|-1 -1 -1 -1 0 -1|-1 -1 -1 -1 -1 0",
		"6 1 0 0 0 0 0 0"},
	{"a cycle and a vertex apart", "0-2 2-0", "0 1", "0 -1 1|-1 0 -1|1 -1 0", "3 2 2 2 2 2 2 2"},
	{"a cycle through three vertices", "0-1 1-2 2-0", "0 1 2", "0 1 2|2 0 1|1 2 0", "3 3 3 3 3 3 3 3"},
	{"a cycle through four vertices in another order", "0-2 1-0 2-3 3-1", "0 1 2 3", "0 3 1 2|1 0 2 3|3 2 0 1|2 1 3 0", "4 4 4 4 4 4 4 4"},
	{"a cycle through five vertices backwards", "0-4 1-0 2-1 3-2 4-3", "0 1 2 3 4", "0 4 3 2 1|1 0 4 3 2|2 1 0 4 3|3 2 1 0 4|4 3 2 1 0", "5 5 5 5 5 5 5 5"},
	{"a cycle through six vertices", "0-1 1-2 2-3 3-4 4-5 5-0", "0 1 2 3 4 5",
		"0 1 2 3 4 5|5 0 1 2 3 4|4 5 0 1 2 3|3 4 5 0 1 2|2 3 4 5 0 1|1 2 3 4 5 0", "6 6 6 6 6 6 6 6"},
	{"two cycles with a vertex in common", "0-1 0-2 1-0 2-0", "0 1 2 3", "0 1 1|1 0 2|1 2 0", "3 4 6 8 12 16 24 32"},
	{"a short and a long cycle with a vertex in common", "0-1 0-2 1-0 2-3 3-0", "0 1 2 3 4", "0 1 1 2|1 0 2 3|2 3 0 1|1 2 2 0", "4 5 7 9 12 16 21 28"},
	{"two cycles apart", "0-1 1-0 2-3 3-2", "0 1 2 3", "0 1 -1 -1|1 0 -1 -1|-1 -1 0 1|-1 -1 1 0", "4 4 4 4 4 4 4 4"},
	{"two cycles with an arc between", "0-1 1-0 1-2 2-3 3-2", "0 1 3 4", "0 1 2 3|1 0 1 2|-1 -1 0 1|-1 -1 1 0", "4 5 6 7 8 9 10 11"},
	{"a way to a cycle and on from it", "0-1 1-2 2-1 2-3 3-4", "1 2", "0 1 2 3 4|-1 0 1 2 3|-1 1 0 1 2|-1 -1 -1 0 1|-1 -1 -1 -1 0", "5 5 5 6 6 6 6 6"},
	{"arcs to themselves in a row", "0-0 0-1 1-1 1-2 2-2", "0 2 4", "0 1 2|-1 0 1|-1 -1 0", "3 5 8 12 17 23 30 38"},
	{"arcs to themselves only", "0-0 1-1 2-2 3-3 4-4 5-5", "0 1 2 3 4 5",
		"0 -1 -1 -1 -1 -1|-1 0 -1 -1 -1 -1|-1 -1 0 -1 -1 -1|-1 -1 -1 0 -1 -1|-1 -1 -1 -1 0 -1|-1 -1 -1 -1 -1 0", "6 6 6 6 6 6 6 6"},
	{"all in a row", "0-1 1-2 2-3 3-4 4-5", "",
		"0 1 2 3 4 5|-1 0 1 2 3 4|-1 -1 0 1 2 3|-1 -1 -1 0 1 2|-1 -1 -1 -1 0 1|-1 -1 -1 -1 -1 0", "6 5 4 3 2 1 0 0"},
	{"all in a row backwards", "1-0 2-1 3-2 4-3 5-4", "",
		"0 -1 -1 -1 -1 -1|1 0 -1 -1 -1 -1|2 1 0 -1 -1 -1|3 2 1 0 -1 -1|4 3 2 1 0 -1|5 4 3 2 1 0", "6 5 4 3 2 1 0 0"},
	{"all arcs forwards", "0-1 0-2 0-3 0-4 0-5 1-2 1-3 1-4 1-5 2-3 2-4 2-5 3-4 3-5 4-5", "",
		"0 1 1 1 1 1|-1 0 1 1 1 1|-1 -1 0 1 1 1|-1 -1 -1 0 1 1|-1 -1 -1 -1 0 1|-1 -1 -1 -1 -1 0", "6 15 20 15 6 1 0 0"},
	{"a short and a long way", "0-1 0-2 1-4 2-3 3-4", "", "0 1 1 2 2|-1 0 -1 -1 1|-1 -1 0 1 2|-1 -1 -1 0 1|-1 -1 -1 -1 0", "5 5 3 1 0 0 0 0"},
	{"arcs from one vertex", "0-1 0-2 0-3", "", "0 1 1 1|-1 0 -1 -1|-1 -1 0 -1|-1 -1 -1 0", "4 3 0 0 0 0 0 0"},
	{"arcs to one vertex", "1-0 2-0 3-0", "", "0 -1 -1 -1|1 0 -1 -1|1 -1 0 -1|1 -1 -1 0", "4 3 0 0 0 0 0 0"},
	{"a row with all arcs back", "0-1 1-0 1-2 2-0 2-1 2-3 3-0 3-1 3-2", "0 1 2 3 4 5 6 7 8", "0 1 2 3|1 0 1 2|1 1 0 1|1 1 1 0", "4 9 18 36 72 144 288 576"},
	{"30 arcs, none to itself", textOfArcs(arcsBut(6)), upTo30,
		"0 1 1 1 1 1|1 0 1 1 1 1|1 1 0 1 1 1|1 1 1 0 1 1|1 1 1 1 0 1|1 1 1 1 1 0", "6 30 150 750 3750 18750 93750 468750"},
	{"the first 30 arcs", textOfArcs(allArcs(6)[:30]), "0 1 2 3 4 6 7 8 9 10 12 13 14 15 16 18 19 20 21 22 24 25 26 27 28",
		"0 1 1 1 1 1|1 0 1 1 1 1|1 1 0 1 1 1|1 1 1 0 1 1|1 1 1 1 0 1|-1 -1 -1 -1 -1 0", "6 30 150 750 3750 18750 93750 468750"},
	{"the last 30 arcs", textOfArcs(allArcs(6)[6:]), "1 2 3 4 5 7 8 9 10 11 13 14 15 16 17 19 20 21 22 23 25 26 27 28 29",
		"0 -1 -1 -1 -1 -1|1 0 1 1 1 1|1 1 0 1 1 1|1 1 1 0 1 1|1 1 1 1 0 1|1 1 1 1 1 0", "6 30 150 750 3750 18750 93750 468750"},
	{"all 25 arcs of five vertices", textOfArcs(allArcs(5)), "0 1 2 3 4 5 6 7 8 9 10 11 12 13 14 15 16 17 18 19 20 21 22 23 24",
		"0 1 1 1 1|1 0 1 1 1|1 1 0 1 1|1 1 1 0 1|1 1 1 1 0", "5 25 125 625 3125 15625 78125 390625"},
}

func TestLoopConstants(t *testing.T) {
	if impl.MaxSpots != 6 || impl.MaxLayers != 8 {
		t.Error(impl.MaxSpots, impl.MaxLayers)
	}
}

// checkNeeded goes by the least numbers of arcs from each vertex to each one.
func checkNeeded(t *testing.T, g loop, needed [][]int) {
	t.Helper()
	for from, row := range needed {
		checkEnough(t, g, from, slices.Max(row))
		for most := 0; most <= impl.MaxLayers; most++ {
			var reached []int
			for s, n := range row {
				if n >= 0 && n <= most {
					reached = append(reached, s)
				}
			}
			checkReach(t, g, from, most, reached)
		}
	}
}

// Small and large graphs with their results written out by hand.
func TestLoopsByHand(t *testing.T) {
	for _, c := range loopCases {
		g := c.graph()
		checkBack(t, g, numbersIn(c.back))
		checkNeeded(t, g, rowsIn(c.needed))
		for k, want := range numbersIn(c.walks) {
			n := 0
			for i := range g.spots * g.spots {
				few, _ := impl.WalksOf(g.spots, g.arcs, i/g.spots, i%g.spots, k+1)
				n += few
			}
			if n != want {
				t.Errorf("%s: %d walks of %d vertices, want %d", c.name, n, k+1, want)
			}
		}
		checkByArcs(t, g)
		checkByWalks(t, g)
	}
}

// Promise 12 for the graphs of the cases, all 30 arcs among them.
func TestWalksAreThePaths(t *testing.T) {
	r := lcg(120)
	for _, c := range loopCases {
		g := c.graph()
		for layers, want := range numbersIn(c.walks) {
			walks := checkWalks(t, g, layers+1)
			if len(walks) != want {
				t.Errorf("%s: %d walks of %d vertices, want %d", c.name, len(walks), layers+1, want)
			}
			checkLists(t, &r, g, layers+1, walks)
		}
	}
}

// Promise 12, and all functions, for every graph of up to three vertices.
func TestEverySmallLoop(t *testing.T) {
	r := lcg(121)
	visited := 0
	for spots := 1; spots <= 3; spots++ {
		every := allArcs(spots)
		for set := range 1 << len(every) {
			g := loop{spots: spots}
			for i, a := range every {
				if set>>i&1 == 1 {
					g.arcs = append(g.arcs, a)
				}
			}
			checkByArcs(t, g)
			checkByWalks(t, g)
			checkPromise(t, &r, g)
			visited++
		}
	}
	if visited != 2+16+512 {
		t.Errorf("%d graphs", visited)
	}
}

// someLoop takes each arc with a chance of so many in a hundred, up to 30.
func someLoop(r *lcg, spots, chance int) loop {
	g := loop{spots: spots}
	for _, a := range allArcs(spots) {
		if r.below(100) < chance && len(g.arcs) < 30 {
			g.arcs = append(g.arcs, a)
		}
	}
	return g
}

// Promise 12, and all functions, for graphs of 1 to 6 vertices.
func TestSomeLoops(t *testing.T) {
	r := lcg(122)
	few, many, back, none := 0, 0, 0, 0
	for i := range 900 {
		g := someLoop(&r, 1+i%6, 5+r.below(35))
		checkByArcs(t, g)
		if checkByWalks(t, g) {
			few++
			checkPromise(t, &r, g)
		} else {
			many++
		}
		switch l, _ := impl.BackArcs(g.spots, g.arcs); {
		case len(l) == 0 && len(g.arcs) > 0:
			none++
		case len(l) > 0 && len(l) < len(g.arcs):
			back++
		}
	}
	if few < 300 || many < 100 || back < 200 || none < 50 {
		t.Errorf("few walks: %d, many: %d, some arcs on a cycle: %d, none: %d", few, many, back, none)
	}
}

// Promise 12 where there are many walks.
func TestManyWalks(t *testing.T) {
	r := lcg(123)
	for i := range 24 {
		g := someLoop(&r, 3+i%4, 40+r.below(20))
		checkByArcs(t, g)
		checkPromise(t, &r, g)
	}
}

// Graphs in which the farthest vertex is as far as it can be, with the vertices
// in some order.
func TestLongestWays(t *testing.T) {
	r := lcg(124)
	for i := range 60 {
		spots := 1 + i%6
		order := make([]int, spots)
		for k := range order {
			j := r.below(k + 1)
			order[k], order[j] = order[j], k
		}
		var l []impl.Arc
		for k := 1; k < spots; k++ {
			l = append(l, impl.Arc{From: order[k-1], To: order[k]})
			for j := range k {
				if r.below(3) == 0 {
					l = append(l, impl.Arc{From: order[k], To: order[j]})
				}
			}
		}
		slices.SortFunc(l, func(a, b impl.Arc) int { return a.From*spots + a.To - b.From*spots - b.To })
		g := loop{spots: spots, arcs: l}
		checkEnough(t, g, order[0], spots-1)
		for most := 0; most <= impl.MaxLayers; most++ {
			reached := slices.Sorted(slices.Values(order[:min(most+1, spots)]))
			checkReach(t, g, order[0], most, reached)
		}
		checkByArcs(t, g)
		checkByWalks(t, g)
	}
}

// The last layer has no outgoing arcs, by hand.
func TestLayOutByHand(t *testing.T) {
	cases := []struct {
		spots  int
		arcs   string
		layers int
		want   string
	}{
		{1, "", 1, ""},
		{1, "", 8, ""},
		{1, "0-0", 1, ""},
		{1, "0-0", 2, "0-1"},
		{1, "0-0", 8, "0-1 1-2 2-3 3-4 4-5 5-6 6-7"},
		{2, "0-1 1-0", 1, ""},
		{2, "0-1 1-0", 2, "0-3 1-2"},
		{2, "0-1 1-0", 3, "0-3 1-2 2-5 3-4"},
		{2, "0-1 1-0", 8, "0-3 1-2 2-5 3-4 4-7 5-6 6-9 7-8 8-11 9-10 10-13 11-12 12-15 13-14"},
		{2, "0-0 0-1 1-1", 4, "0-2 0-3 1-3 2-4 2-5 3-5 4-6 4-7 5-7"},
		{3, "0-2 1-0 1-2 2-2", 1, ""},
		{3, "0-2 1-0 1-2 2-2", 2, "0-5 1-3 1-5 2-5"},
		{3, "0-2 1-0 1-2 2-2", 3, "0-5 1-3 1-5 2-5 3-8 4-6 4-8 5-8"},
		{4, "3-0", 5, "3-4 7-8 11-12 15-16"},
		{5, "0-4 4-0", 6, "0-9 4-5 5-14 9-10 10-19 14-15 15-24 19-20 20-29 24-25"},
		{6, "", 8, ""},
		{6, "0-5 2-2 5-0", 8, "0-11 2-8 5-6 6-17 8-14 11-12 12-23 14-20 17-18 18-29 20-26 23-24 24-35 26-32 29-30 30-41 32-38 35-36 36-47 38-44 41-42"},
	}
	for _, c := range cases {
		checkLayOut(t, loop{c.spots, arcsIn(c.arcs)}, c.layers, arcsIn(c.want))
	}
}

// As many arcs as the graph has are between two layers, 210 at the most.
func TestNumbersOfLaidArcs(t *testing.T) {
	for _, c := range loopCases {
		g := c.graph()
		for layers := 1; layers <= impl.MaxLayers; layers++ {
			laid, ok := impl.LayOut(g.spots, g.arcs, layers)
			if len(laid) != len(g.arcs)*(layers-1) || !ok {
				t.Errorf("%s: %d arcs between %d layers, %t", c.name, len(laid), layers, ok)
			}
			for _, a := range laid {
				if a.From < 0 || a.From >= g.spots*(layers-1) || a.To < g.spots || a.To >= g.spots*layers || a.To/g.spots != a.From/g.spots+1 {
					t.Errorf("%s: %d layers have the arc %v", c.name, layers, a)
				}
			}
		}
	}
	laid, _ := impl.LayOut(6, arcsBut(6), 8)
	if len(laid) != 210 || laid[0] != (impl.Arc{From: 0, To: 7}) || laid[29] != (impl.Arc{From: 5, To: 10}) || laid[30] != (impl.Arc{From: 6, To: 13}) || laid[209] != (impl.Arc{From: 41, To: 46}) {
		t.Errorf("%d arcs: %v", len(laid), laid)
	}
}

func TestWalksByHand(t *testing.T) {
	cases := []struct {
		spots      int
		arcs, walk string
		is         bool
		laid       string
	}{
		{2, "0-1 1-0", "0 1 0", true, "0 3 4"},
		{2, "0-1 1-0", "0 1 1", false, "0 3 5"},
		{2, "0-1 1-0", "0 0 1", false, "0 2 5"},
		{2, "0-1 1-0", "1 0 1 0 1 0 1 0", true, "1 2 5 6 9 10 13 14"},
		{2, "0-1 1-0", "1 0 1 0 1 0 1 1", false, "1 2 5 6 9 10 13 15"},
		{2, "0-1 1-0", "1 1 0 1 0 1 0 1", false, "1 3 4 7 8 11 12 15"},
		{2, "0-1", "0 1", true, "0 3"},
		{2, "0-1", "1 0", false, "1 2"},
		{2, "0-1", "0 1 0", false, "0 3 4"},
		{2, "", "0 1", false, "0 3"},
		{2, "", "0 0", false, "0 2"},
		{1, "0-0", "0 0 0 0 0 0 0 0", true, "0 1 2 3 4 5 6 7"},
		{1, "", "0 0", false, "0 1"},
		{3, "0-1 0-2 2-2", "0 2 2 2", true, "0 5 8 11"},
		{3, "0-1 0-2 2-2", "0 1 2 2", false, "0 4 8 11"},
		{4, "0-1 1-2 2-3 3-0", "2 3 0 1 2 3", true, "2 7 8 13 18 23"},
		{4, "0-1 1-2 2-3 3-0", "2 3 0 1 3", false, "2 7 8 13 19"},
		{6, "0-5 5-0", "5 0 5 0 5 0 5 0", true, "5 6 17 18 29 30 41 42"},
		{6, "0-5 5-0", "0 5 0 5 0 5 0 5", true, "0 11 12 23 24 35 36 47"},
	}
	for _, c := range cases {
		l, walk := arcsIn(c.arcs), numbersIn(c.walk)
		if is, ok := impl.IsWalk(c.spots, l, walk); is != c.is || !ok {
			t.Errorf("IsWalk(%d, %v, %v) = %t, %t, want %t, true", c.spots, l, walk, is, ok, c.is)
		}
		if numbers, ok := impl.LaidWalk(c.spots, walk); !slices.Equal(numbers, numbersIn(c.laid)) || !ok {
			t.Errorf("LaidWalk(%d, %v) = %v, %t, want %s, true", c.spots, walk, numbers, ok, c.laid)
		}
	}
}

// A list of one vertex is a walk, whatever the arcs are.
func TestWalksOfOneVertex(t *testing.T) {
	for _, c := range loopCases {
		g := c.graph()
		for s := range g.spots {
			if is, ok := impl.IsWalk(g.spots, g.arcs, []int{s}); !is || !ok {
				t.Errorf("%s: IsWalk of %d alone = %t, %t", c.name, s, is, ok)
			}
			if numbers, ok := impl.LaidWalk(g.spots, []int{s}); !slices.Equal(numbers, []int{s}) || !ok {
				t.Errorf("%s: LaidWalk of %d alone = %v, %t", c.name, s, numbers, ok)
			}
			for other := range g.spots {
				want := 0
				if other == s {
					want = 1
				}
				checkWalksOf(t, g, s, other, 1, want)
			}
		}
	}
}

func TestBackArcsByHand(t *testing.T) {
	cases := []struct {
		spots      int
		arcs, want string
	}{
		{2, "0-1 1-0", "0 1"},
		{2, "0-1", ""},
		{3, "1-1", "0"},
		{3, "0-1 1-1 1-2", "1"},
		{3, "0-1 0-2 1-2", ""},
		{3, "0-1 0-2 1-2 2-0", "0 1 2 3"},
		{3, "0-1 0-2 1-2 2-1", "2 3"},
		{4, "0-1 1-2 2-0 2-3", "0 1 2"},
		{4, "0-1 1-2 2-3 3-1", "1 2 3"},
		{4, "0-3 1-0 2-1 3-2", "0 1 2 3"},
		{6, "0-1 1-2 2-3 3-4 4-5 5-0", "0 1 2 3 4 5"},
		{6, "0-1 1-2 2-3 3-4 4-5 5-1", "1 2 3 4 5"},
		{6, "0-1 1-2 2-3 3-4 3-5 4-2", "2 3 5"},
		{6, "0-1 1-0 2-3 3-2 4-5 5-4", "0 1 2 3 4 5"},
		{6, "0-1 0-2 1-0 1-2 2-3 3-4 4-3 5-5", "0 2 5 6 7"},
	}
	for _, c := range cases {
		checkBack(t, loop{c.spots, arcsIn(c.arcs)}, numbersIn(c.want))
	}
}

func TestReachWithinByHand(t *testing.T) {
	cases := []struct {
		spots      int
		arcs       string
		from, most int
		want       string
	}{
		{2, "0-1 1-0", 0, 1, "0 1"},
		{2, "0-1 1-0", 0, 0, "0"},
		{2, "0-1 1-0", 1, 0, "1"},
		{2, "0-1", 1, 8, "1"},
		{3, "0-2 2-1", 0, 0, "0"},
		{3, "0-2 2-1", 0, 1, "0 2"},
		{3, "0-2 2-1", 0, 2, "0 1 2"},
		{3, "0-2 2-1", 2, 8, "1 2"},
		{3, "1-1", 1, 8, "1"},
		{6, "0-1 1-2 2-3 3-4 4-5", 0, 4, "0 1 2 3 4"},
		{6, "0-1 1-2 2-3 3-4 4-5", 0, 5, "0 1 2 3 4 5"},
		{6, "0-1 1-2 2-3 3-4 4-5", 3, 1, "3 4"},
		{6, "0-1 1-2 2-3 3-4 4-5", 5, 8, "5"},
		{6, "0-1 0-5 1-2 2-3 3-4 5-4", 0, 2, "0 1 2 4 5"},
		{6, "1-0 2-1 3-2 4-3 5-4", 5, 3, "2 3 4 5"},
		{6, "1-0 2-1 3-2 4-3 5-4", 5, 8, "0 1 2 3 4 5"},
	}
	for _, c := range cases {
		checkReach(t, loop{c.spots, arcsIn(c.arcs)}, c.from, c.most, numbersIn(c.want))
	}
}

func TestEnoughForByHand(t *testing.T) {
	cases := []struct {
		spots int
		arcs  string
		from  int
		want  int
	}{
		{1, "", 0, 0},
		{1, "0-0", 0, 0},
		{2, "0-1 1-0", 0, 1},
		{2, "0-1 1-0", 1, 1},
		{2, "0-1", 1, 0},
		{3, "0-1 1-2", 0, 2},
		{3, "0-1 0-2 1-2", 0, 1},
		{4, "0-1 1-2 2-3 3-0", 2, 3},
		{6, "0-1 1-2 2-3 3-4 4-5", 0, 5},
		{6, "0-1 1-2 2-3 3-4 4-5", 1, 4},
		{6, "0-1 1-2 2-3 3-4 4-5", 4, 1},
		{6, "1-0 2-1 3-2 4-3 5-4", 5, 5},
		{6, "0-1 0-5 1-2 2-3 3-4 5-4", 0, 3},
		{6, "0-3 1-4 2-5 3-1 4-2", 0, 5},
		{6, "3-3", 3, 0},
	}
	for _, c := range cases {
		checkEnough(t, loop{c.spots, arcsIn(c.arcs)}, c.from, c.want)
	}
}

// In a graph of six vertices with all arcs but those to themselves, a walk of n
// arcs comes back in (5^n + 5(-1)^n) / 6 ways.
func TestWalksOfByHand(t *testing.T) {
	all := textOfArcs(arcsBut(6))
	cases := []struct {
		spots          int
		arcs           string
		from, to, long int
		want           int
	}{
		{2, "0-1 1-0", 0, 0, 3, 1},
		{2, "0-1 1-0", 0, 1, 3, 0},
		{2, "0-1 1-0", 0, 1, 8, 1},
		{2, "0-1 1-0", 0, 0, 8, 0},
		{2, "0-1", 0, 1, 2, 1},
		{2, "0-1", 1, 0, 2, 0},
		{2, "0-1", 0, 1, 3, 0},
		{1, "0-0", 0, 0, 8, 1},
		{1, "", 0, 0, 1, 1},
		{1, "", 0, 0, 2, 0},
		{3, "0-0 0-1 1-1 1-2 2-2", 0, 2, 8, 21},
		{4, "0-1 0-2 1-3 2-3", 0, 3, 3, 2},
		{4, "0-1 0-2 1-3 2-3", 0, 3, 4, 0},
		{6, all, 0, 0, 2, 0},
		{6, all, 0, 5, 2, 1},
		{6, all, 2, 2, 3, 5},
		{6, all, 2, 3, 3, 4},
		{6, all, 5, 5, 8, 13020},
		{6, all, 5, 0, 8, 13021},
		{6, all, 0, 1, 8, 13021},
		{6, textOfArcs(allArcs(6)[:30]), 0, 5, 8, 15625},
		{6, textOfArcs(allArcs(6)[:30]), 5, 5, 8, 0},
		{6, textOfArcs(allArcs(6)[:30]), 5, 5, 1, 1},
		{5, textOfArcs(allArcs(5)), 3, 1, 8, 15625},
	}
	for _, c := range cases {
		checkWalksOf(t, loop{c.spots, arcsIn(c.arcs)}, c.from, c.to, c.long, c.want)
	}
}

// wantGoodArcs holds every arc against all that come behind it.
func wantGoodArcs(spots int, l []impl.Arc) bool {
	good := spots > 0 && spots < 7 && len(l) < 31
	for i, a := range l {
		good = good && a.From >= 0 && a.To >= 0 && a.From < spots && a.To < spots
		for _, b := range l[i+1:] {
			good = good && (a.From < b.From || a.From == b.From && a.To < b.To)
		}
	}
	return good
}

// Promise 19: every list of up to three arcs with numbers in and around a range.
func TestEveryListOfFewArcs(t *testing.T) {
	good := 0
	for spots := 1; spots <= 2; spots++ {
		numbers := spots + 2
		for long := range 4 {
			eachList(numbers*numbers, long, func(list []int) {
				var l []impl.Arc
				for _, n := range list {
					l = append(l, impl.Arc{From: n/numbers - 1, To: n%numbers - 1})
				}
				want := wantGoodArcs(spots, l)
				if got := impl.GoodArcs(spots, l); got != want {
					t.Fatalf("GoodArcs(%d, %v) = %t", spots, l, got)
				}
				if want {
					good++
					checkByArcs(t, loop{spots, l})
				} else {
					wantNoLoop(t, "a list of few arcs", loop{spots, l})
				}
			})
		}
	}
	if good != 1+1+1+4+6+4 {
		t.Errorf("%d lists are valid", good)
	}
}

// wantNoLoop checks that every function with arcs returns its zero result for a
// graph that is not valid, with other arguments that are valid in some graph.
func wantNoLoop(t *testing.T, name string, g loop) {
	t.Helper()
	if impl.GoodArcs(g.spots, g.arcs) {
		t.Errorf("GoodArcs of %s, %d, %v = true", name, g.spots, g.arcs)
	}
	if l, ok := impl.BackArcs(g.spots, g.arcs); len(l) != 0 || ok {
		t.Errorf("BackArcs of %s, %d, %v = %v, %t", name, g.spots, g.arcs, l, ok)
	}
	for _, n := range []int{1, 2, 8} {
		wantNoLayers(t, name, g, n)
		for _, s := range []int{0, 1, 5} {
			wantNoReach(t, name, g, s, n)
			wantNoWalksOf(t, name, g, s, 0, n)
		}
	}
	for _, s := range []int{0, 1, 5, 6} {
		wantNoEnough(t, name, g, s)
	}
	for _, text := range []string{"0", "1", "0 0", "0 1", "1 0", "0 1 0", "0 0 0 0 0 0 0 0"} {
		wantNoIsWalk(t, name, g, numbersIn(text))
	}
}

func wantNoLayers(t *testing.T, name string, g loop, layers int) {
	t.Helper()
	if l, ok := impl.LayOut(g.spots, g.arcs, layers); len(l) != 0 || ok {
		t.Errorf("LayOut of %s, %d, %v, %d layers = %v, %t", name, g.spots, g.arcs, layers, l, ok)
	}
}

func wantNoReach(t *testing.T, name string, g loop, from, most int) {
	t.Helper()
	if l, ok := impl.ReachWithin(g.spots, g.arcs, from, most); len(l) != 0 || ok {
		t.Errorf("ReachWithin of %s, %d, %v, %d, %d = %v, %t", name, g.spots, g.arcs, from, most, l, ok)
	}
}

func wantNoEnough(t *testing.T, name string, g loop, from int) {
	t.Helper()
	if n, ok := impl.EnoughFor(g.spots, g.arcs, from); n != 0 || ok {
		t.Errorf("EnoughFor of %s, %d, %v, %d = %d, %t", name, g.spots, g.arcs, from, n, ok)
	}
}

func wantNoWalksOf(t *testing.T, name string, g loop, from, to, long int) {
	t.Helper()
	if n, ok := impl.WalksOf(g.spots, g.arcs, from, to, long); n != 0 || ok {
		t.Errorf("WalksOf of %s, %d, %v, %d, %d, %d = %d, %t", name, g.spots, g.arcs, from, to, long, n, ok)
	}
}

func wantNoIsWalk(t *testing.T, name string, g loop, walk []int) {
	t.Helper()
	if is, ok := impl.IsWalk(g.spots, g.arcs, walk); is || ok {
		t.Errorf("IsWalk of %s, %d, %v, %v = %t, %t", name, g.spots, g.arcs, walk, is, ok)
	}
}

func wantNoLaidWalk(t *testing.T, spots int, walk []int) {
	t.Helper()
	if l, ok := impl.LaidWalk(spots, walk); len(l) != 0 || ok {
		t.Errorf("LaidWalk(%d, %v) = %v, %t", spots, walk, l, ok)
	}
}

// farNumbers are the odd numbers and those at the limits of the chapter.
var farNumbers = append([]int{3, 4, 9, 30, 31, 36, 1<<32 + 3, -1<<63 + 3, -9}, oddNumbers...)

// Promise 19: numbers of vertices that are not in range, with arcs that would
// be valid in a graph.
func TestNumbersOfVertices(t *testing.T) {
	for _, spots := range farNumbers {
		for _, text := range []string{"", "0-0", "0-1 1-0", "0-5 5-0", "0-6", "6-0", "6-6"} {
			g := loop{spots, arcsIn(text)}
			want := wantGoodArcs(spots, g.arcs)
			if good := impl.GoodArcs(spots, g.arcs); good != want {
				t.Errorf("GoodArcs(%d, %s) = %t", spots, text, good)
			}
			if want {
				checkByArcs(t, g)
			} else {
				wantNoLoop(t, "arcs", g)
			}
		}
		if spots < 1 || spots > impl.MaxSpots {
			wantNoLaidWalk(t, spots, []int{0})
			wantNoLaidWalk(t, spots, []int{0, 0, 0, 0, 0, 0, 0, 0})
			wantNoLaidWalk(t, spots, nil)
		} else if l, ok := impl.LaidWalk(spots, []int{0, 0}); !slices.Equal(l, []int{0, spots}) || !ok {
			t.Errorf("LaidWalk(%d, [0 0]) = %v, %t", spots, l, ok)
		}
	}
}

// Promise 19: arcs that are not valid, each as the argument of each function.
func TestBadArcs(t *testing.T) {
	cases := []struct {
		name  string
		spots int
		arcs  string
	}{
		{"an arc twice", 2, "0-1 0-1"},
		{"an arc to itself twice", 1, "0-0 0-0"},
		{"the first arc twice", 3, "0-1 0-1 1-2 2-0"},
		{"a middle arc twice", 3, "0-1 1-2 1-2 2-0"},
		{"the last arc twice", 3, "0-1 1-2 2-0 2-0"},
		{"an arc that comes again at the end", 3, "0-1 1-2 2-0 0-1"},
		{"not in order by From", 2, "1-0 0-1"},
		{"not in order by From, but by To", 3, "2-0 1-1 0-2"},
		{"not in order by To", 2, "0-1 0-0"},
		{"not in order at the end", 3, "0-1 1-2 2-1 2-0"},
		{"not in order at the begin", 3, "0-2 0-1 1-2 2-1"},
		{"not in order in the middle", 4, "0-1 2-0 1-3 3-0"},
		{"To as large as From is small", 3, "0-3 1-0"},
		{"a vertex that is not there", 2, "0-1 1-2"},
		{"From that is not there", 2, "0-1 2-0"},
		{"a vertex of one more", 5, "0-5"},
		{"a seventh vertex", 6, "5-6"},
		{"31 arcs", 6, textOfArcs(allArcs(6)[:31])},
		{"the last 31 arcs", 6, textOfArcs(allArcs(6)[5:])},
		{"32 arcs", 6, textOfArcs(allArcs(6)[2:34])},
		{"36 arcs", 6, textOfArcs(allArcs(6))},
		{"30 arcs, one twice", 6, textOfArcs(append(slices.Clone(arcsBut(6)[:29]), arcsBut(6)[28]))},
		{"30 arcs, two not in order", 6, textOfArcs(append(slices.Clone(arcsBut(6)[:28]), arcsBut(6)[29], arcsBut(6)[28]))},
		{"30 arcs twice", 6, textOfArcs(append(arcsBut(6), arcsBut(6)...))},
		{"30 arcs in too few vertices", 5, textOfArcs(arcsBut(6))},
	}
	for _, c := range cases {
		g := loop{c.spots, arcsIn(c.arcs)}
		before := slices.Clone(g.arcs)
		wantNoLoop(t, c.name, g)
		if !slices.Equal(g.arcs, before) {
			t.Errorf("%s became %v", c.name, g.arcs)
		}
	}
}

// Promise 19: one number of one arc that is not a vertex, anywhere.
func TestOddNumbersInArcs(t *testing.T) {
	for _, text := range []string{"0-0", "0-1 1-0", "0-1 0-2 1-2 2-2", textOfArcs(arcsBut(6))} {
		arcs := arcsIn(text)
		spots := 1
		for _, a := range arcs {
			spots = max(spots, a.From+1, a.To+1)
		}
		for i := range arcs {
			for _, n := range append([]int{spots}, farNumbers...) {
				for side := range 2 {
					l := slices.Clone(arcs)
					if side == 0 {
						l[i].From = n
					} else {
						l[i].To = n
					}
					want := wantGoodArcs(spots, l)
					if got := impl.GoodArcs(spots, l); got != want {
						t.Fatalf("GoodArcs(%d, %v) = %t", spots, l, got)
					}
					if !want {
						wantNoLoop(t, "odd arcs", loop{spots, l})
					}
				}
			}
		}
	}
}

// Promise 19: graphs of which one or two things are changed.
func TestSpoiledArcs(t *testing.T) {
	r := lcg(125)
	good := 0
	for i := range 4000 {
		g := someLoop(&r, 1+i%6, 30+r.below(60))
		if len(g.arcs) == 0 {
			continue
		}
		at, other := r.below(len(g.arcs)), r.below(len(g.arcs))
		switch r.below(6) {
		case 0:
			g.arcs[at], g.arcs[other] = g.arcs[other], g.arcs[at]
		case 1:
			g.arcs = slices.Insert(g.arcs, at, impl.Arc{From: r.below(g.spots), To: r.below(g.spots)})
		case 2:
			g.arcs[at].To = oftenSmall(&r)
		case 3:
			g.arcs[at].From = oftenSmall(&r)
		case 4:
			g.spots = oftenSmall(&r)
		case 5:
			g.arcs = slices.Delete(g.arcs, at, at+1)
		}
		want := wantGoodArcs(g.spots, g.arcs)
		if got := impl.GoodArcs(g.spots, g.arcs); got != want {
			t.Fatalf("GoodArcs(%d, %v) = %t", g.spots, g.arcs, got)
		}
		if want {
			good++
			checkByArcs(t, g)
		} else {
			wantNoLoop(t, "spoiled arcs", g)
		}
	}
	if good < 800 || good > 3200 {
		t.Errorf("%d graphs are valid", good)
	}
}

// someGraphs are small and large graphs of each number of vertices.
func someGraphs() []loop {
	return []loop{{1, nil}, {1, arcsIn("0-0")}, {2, arcsIn("0-1 1-0")}, {3, arcsIn("0-1 1-2 2-0")}, {4, nil}, {5, allArcs(5)}, {6, arcsBut(6)}}
}

// Promise 19: numbers of layers, of vertices of a walk and of arcs that are not
// in range.
func TestNumbersOfLayers(t *testing.T) {
	for _, g := range someGraphs() {
		last := g.spots - 1
		for _, n := range farNumbers {
			if n < 1 || n > impl.MaxLayers {
				wantNoLayers(t, "layers", g, n)
				wantNoWalksOf(t, "walks", g, 0, 0, n)
				wantNoWalksOf(t, "walks", g, last, last, n)
			} else {
				checkLayOut(t, g, n, wantLaid(g, n))
				checkWalksOf(t, g, last, 0, n, walksBetween(g, n)[last][0])
			}
			if n < 0 || n > impl.MaxLayers {
				wantNoReach(t, "arcs", g, 0, n)
				wantNoReach(t, "arcs", g, last, n)
			} else {
				checkReach(t, g, last, n, trueOnes(wantReach(g, last, n)))
			}
		}
	}
}

// Promise 19: vertices that are not in the graph, on either side and on both.
func TestVerticesOutside(t *testing.T) {
	for _, g := range someGraphs() {
		for _, s := range append([]int{g.spots}, farNumbers...) {
			if s >= 0 && s < g.spots {
				checkEnough(t, g, s, wantEnough(g, s))
				continue
			}
			wantNoEnough(t, "a graph", g, s)
			for _, n := range []int{0, 1, 8} {
				wantNoReach(t, "a graph", g, s, n)
			}
			for _, long := range []int{1, 2, 8} {
				wantNoWalksOf(t, "a graph", g, s, 0, long)
				wantNoWalksOf(t, "a graph", g, 0, s, long)
				wantNoWalksOf(t, "a graph", g, s, s, long)
			}
		}
	}
}

// Promise 19: lists of vertices that are too short or too long, and those with
// a number at any place that is not in the graph.
func TestBadWalks(t *testing.T) {
	for _, g := range append(someGraphs(), loop{2, arcsIn("0-0 0-1 1-0 1-1")}) {
		for long := range 12 {
			walk := make([]int, long)
			if long < 1 || long > impl.MaxLayers {
				wantNoIsWalk(t, "a graph", g, walk)
				wantNoLaidWalk(t, g.spots, walk)
				continue
			}
			for k := range walk {
				for _, n := range append([]int{g.spots}, farNumbers...) {
					walk[k] = n
					if n < 0 || n >= g.spots {
						wantNoIsWalk(t, "a graph", g, walk)
						wantNoLaidWalk(t, g.spots, walk)
					} else {
						checkList(t, g, wantLaid(g, long), walk)
					}
				}
				walk[k] = 0
			}
		}
		wantNoIsWalk(t, "a graph", g, nil)
		wantNoLaidWalk(t, g.spots, nil)
		wantNoIsWalk(t, "a graph", g, make([]int, 1<<16+1))
		wantNoLaidWalk(t, g.spots, make([]int, 1<<16+1))
	}
}

// A list that breaks off at an arc that is not there is no valid list if a
// later vertex is not in the graph.
func TestBadWalksThatBreakOff(t *testing.T) {
	g := loop{3, arcsIn("0-1 1-2")}
	for _, text := range []string{"0 2 3", "1 0 -1", "0 0 1 2 9", "2 2 2 2 2 2 2 7", "0 2 0 0 0 0 0 0 0"} {
		wantNoIsWalk(t, "a list that breaks off", g, numbersIn(text))
	}
	if is, ok := impl.IsWalk(3, g.arcs, []int{0, 2, 1}); is || !ok {
		t.Errorf("IsWalk = %t, %t, want false, true", is, ok)
	}
}

// nil and empty lists are the same.
func TestLoopsOfNil(t *testing.T) {
	for spots := 1; spots <= impl.MaxSpots; spots++ {
		for _, l := range [][]impl.Arc{nil, {}, allArcs(6)[:0]} {
			g := loop{spots, l}
			checkByArcs(t, g)
			checkByWalks(t, g)
		}
		for _, walk := range [][]int{nil, {}, []int{0, 0}[:0]} {
			wantNoIsWalk(t, "no arcs", loop{spots, nil}, walk)
			wantNoLaidWalk(t, spots, walk)
		}
	}
}

// Promise 19: what is behind the length of a list neither completes it nor
// spoils it.
func TestLoopsBehindTheLength(t *testing.T) {
	whole := append(arcsIn("0-1 1-0 1-2"), impl.Arc{From: -1, To: 9}, impl.Arc{From: 2, To: 0})
	for long := range 6 {
		g := loop{3, whole[:long]}
		if long < 4 {
			checkByArcs(t, g)
			checkByWalks(t, g)
		} else {
			wantNoLoop(t, "a spoiled list", g)
		}
	}
	every := allArcs(6)
	checkByArcs(t, loop{6, every[:30]})
	wantNoLoop(t, "31 arcs", loop{6, every[:31]})
	walk := []int{0, 1, 0, 1, 2, 0, 7, 1, 0, 1}
	for long := 1; long <= 6; long++ {
		g := loop{3, whole[:3]}
		checkList(t, g, wantLaid(g, long), walk[:long])
	}
	wantNoIsWalk(t, "a spoiled walk", loop{3, whole[:3]}, walk[:7])
	wantNoLaidWalk(t, 3, walk[:7])
}

// loopLists calls every function of the chapter, also with arguments that are
// not valid, and returns the lists of numbers.
func loopLists(g loop, walk []int) [][]int {
	var lists [][]int
	keep := func(l []int, _ bool) { lists = append(lists, l) }
	impl.GoodArcs(g.spots, g.arcs)
	impl.IsWalk(g.spots, g.arcs, walk)
	keep(impl.LaidWalk(g.spots, walk))
	keep(impl.LaidWalk(g.spots, walk))
	keep(impl.BackArcs(g.spots, g.arcs))
	keep(impl.BackArcs(g.spots, g.arcs))
	for n := -1; n <= 9; n++ {
		impl.LayOut(g.spots, g.arcs, n)
		impl.EnoughFor(g.spots, g.arcs, n)
		for s := -1; s <= g.spots; s++ {
			keep(impl.ReachWithin(g.spots, g.arcs, s, n))
			impl.WalksOf(g.spots, g.arcs, s, 0, n)
		}
	}
	return lists
}

// Promise 19: no argument is changed, up to the capacity of its memory.
func TestLoopArgumentsAreNotChanged(t *testing.T) {
	r := lcg(126)
	for i := range 600 {
		g := someLoop(&r, 1+i%6, 10+r.below(70))
		g.arcs = append(g.arcs, impl.Arc{From: 77, To: -7}, impl.Arc{})
		walk := []int{0, 0, 0, 0, 0, 0, 0, 0, 77, -7}
		for k := range impl.MaxLayers {
			walk[k] = r.below(g.spots)
		}
		if i%3 == 0 {
			g.arcs[r.below(len(g.arcs))].To = oftenSmall(&r)
			walk[r.below(8)] = oftenSmall(&r)
		}
		arcs, spots := slices.Clone(g.arcs), slices.Clone(walk)
		loopLists(loop{g.spots, g.arcs[:len(g.arcs)-2]}, walk[:1+r.below(8)])
		loopLists(g, walk)
		if !slices.Equal(g.arcs, arcs) || !slices.Equal(walk, spots) {
			t.Fatalf("%v and %v became %v and %v", arcs, spots, g.arcs, walk)
		}
	}
}

// Promise 19: the lists share no memory with the arguments, with each other or
// with those of another call.
func TestLoopListsAreNewMemory(t *testing.T) {
	r := lcg(127)
	for i := range 60 {
		g := someLoop(&r, 1+i%6, 10+r.below(70))
		walk := []int{0, g.spots - 1, g.spots / 2, 0}
		arcs, spots := slices.Clone(g.arcs), slices.Clone(walk)
		checkApart(t, func() [][]int { return loopLists(g, walk) })
		for layers := 1; layers <= impl.MaxLayers; layers++ {
			checkNew(t, func() []impl.Arc {
				l, _ := impl.LayOut(g.spots, g.arcs, layers)
				return l
			}, impl.Arc{From: 77, To: -7})
		}
		if !slices.Equal(g.arcs, arcs) || !slices.Equal(walk, spots) {
			t.Fatalf("a result of %v and %v shares their memory", arcs, spots)
		}
	}
}

// Promise 19: a result stays as it is when the arguments change.
func TestLoopResultsAreKept(t *testing.T) {
	l, walk := arcsIn("0-1 1-2 2-0"), []int{0, 1, 2}
	laid, _ := impl.LayOut(3, l, 2)
	numbers, _ := impl.LaidWalk(3, walk)
	back, _ := impl.BackArcs(3, l)
	reached, _ := impl.ReachWithin(3, l, 0, 1)
	clear(l)
	clear(walk)
	if !slices.Equal(laid, arcsIn("0-4 1-5 2-3")) || !slices.Equal(numbers, []int{0, 4, 8}) || !slices.Equal(back, []int{0, 1, 2}) || !slices.Equal(reached, []int{0, 1}) {
		t.Error(laid, numbers, back, reached)
	}
}

// The results are the same in each call, also of several calls at a time.
func TestLoopsAtOneTime(t *testing.T) {
	g := loop{6, arcsBut(6)}
	walk := []int{0, 1, 2, 3, 4, 5, 0, 1}
	want := loopLists(g, walk)
	var wait sync.WaitGroup
	for range 16 {
		wait.Go(func() {
			for range 20 {
				if lists := loopLists(g, walk); !sameClauses(lists, want) {
					t.Errorf("%v, want %v", lists, want)
				}
				for from := 1; from < 6; from++ {
					if n, ok := impl.WalksOf(6, g.arcs, from, 0, 8); n != 13021 || !ok {
						t.Errorf("WalksOf from %d = %d, %t", from, n, ok)
					}
				}
			}
		})
	}
	wait.Wait()
}
