package tests

import (
	"fmt"
	"maps"
	"math"
	"slices"
	"strings"
	"testing"

	"loop.example/g00250/impl"
)

// mustAsk is for questions that are right by the table of the tests.
func mustAsk(t *testing.T, text string) impl.Query {
	t.Helper()
	q, ok := readQueryByHand(text)
	if !ok {
		t.Fatalf("%q is no question", text)
	}
	return q
}

// endsOfAtoms asks each atom of PathEnds, from each vertex.
func endsOfAtoms(g impl.Graph, q impl.Query) [][][]int {
	out := [][][]int{}
	for _, a := range q.Atoms {
		p, _ := readPathByHand(a.Path)
		ends := [][]int{}
		for from := range g.Size {
			ends = append(ends, impl.PathEnds(g, p, from))
		}
		out = append(out, ends)
	}
	return out
}

func allValsByHand(size, count int) [][]int {
	out := [][]int{{}}
	for range count {
		longer := [][]int{}
		for _, vals := range out {
			for v := range size {
				longer = append(longer, append(slices.Clone(vals), v))
			}
		}
		out = longer
	}
	return out
}

// heldByHand is asked of vertices alone, as many as there are names.
func heldByHand(q impl.Query, names []string, ends [][][]int, vals []int) bool {
	val := func(name string) int { return vals[slices.Index(names, name)] }
	for i, a := range q.Atoms {
		if !slices.Contains(ends[i][val(a.From)], val(a.To)) {
			return false
		}
	}
	for _, f := range q.Filters {
		right := f.Num
		if f.Right != "" {
			right = val(f.Right)
		}
		if f.Op == 1 && val(f.Left) >= right || f.Op == 2 && val(f.Left) != right {
			return false
		}
	}
	return true
}

func holdsByHand(g impl.Graph, q impl.Query, vals []int) bool {
	if !rightGraph(g) || !rightQuery(q) || len(vals) != len(namesByHand(q)) {
		return false
	}
	for _, v := range vals {
		if v < 0 || v > g.Size-1 {
			return false
		}
	}
	return heldByHand(q, namesByHand(q), endsOfAtoms(g, q), vals)
}

func outRowByHand(q impl.Query, vals []int) []int {
	row := []int{}
	if names := namesByHand(q); rightQuery(q) && len(vals) == len(names) {
		for _, name := range q.Out {
			row = append(row, vals[slices.Index(names, name)])
		}
	}
	return row
}

// countedRows are rows of one length, and how often each is there; what is behind the length is 0.
type countedRows map[[4]int]int

func (c countedRows) add(row []int, times int) {
	key := [4]int{}
	copy(key[:], row)
	c[key] += times
}

func (c countedRows) bag(wide int, each bool) impl.Bag {
	b := impl.Bag{}
	for _, key := range slices.SortedFunc(maps.Keys(c), func(a, b [4]int) int { return slices.Compare(a[:], b[:]) }) {
		times := c[key]
		if each {
			times = 1
		}
		b.Items = append(b.Items, item(times, slices.Clone(key[:wide])...))
	}
	return b
}

// meaningByHand goes through all vals, and asks each atom of PathEnds.
func meaningByHand(g impl.Graph, q impl.Query) (impl.Bag, bool) {
	if !rightGraph(g) || !rightQuery(q) {
		return impl.Bag{}, false
	}
	names, ends, rows := namesByHand(q), endsOfAtoms(g, q), countedRows{}
	for _, vals := range allValsByHand(g.Size, len(names)) {
		if heldByHand(q, names, ends, vals) {
			row := []int{}
			for _, name := range q.Out {
				row = append(row, vals[slices.Index(names, name)])
			}
			rows.add(row, 1)
		}
	}
	if len(rows) > mostBagItems {
		return impl.Bag{}, false
	}
	return rows.bag(len(q.Out), q.Each), true
}

func checkHolds(t *testing.T, g impl.Graph, q impl.Query, vals []int, want bool) {
	t.Helper()
	if holdsByHand(g, q, vals) != want {
		t.Fatalf("Holds(%v, %+v, %v): the test itself is wrong", g, q, vals)
	}
	g, q, vals = roomyGraph(g), roomyQuery(q), roomyRow(vals)
	before := wholeGraph(g) + wholeQuery(q) + wholeRow(vals)
	if got := impl.Holds(g, q, vals); got != want {
		t.Errorf("Holds(%v, %+v, %v) = %v; not %v", g, q, vals, got, want)
	}
	if wholeGraph(g)+wholeQuery(q)+wholeRow(vals) != before {
		t.Errorf("Holds(%v, %+v, %v) wrote into what was given", g, q, vals)
	}
}

// checkAllHolds asks of all vals at once, which is soon enough for a few thousand of them.
func checkAllHolds(t *testing.T, g impl.Graph, q impl.Query) {
	t.Helper()
	names, ends := namesByHand(q), endsOfAtoms(g, q)
	g, q = roomyGraph(g), roomyQuery(q)
	before := wholeGraph(g) + wholeQuery(q)
	for _, vals := range allValsByHand(g.Size, len(names)) {
		want := heldByHand(q, names, ends, vals)
		if got := impl.Holds(g, q, vals); got != want {
			t.Fatalf("Holds(%v, %+v, %v) = %v; not %v", g, q, vals, got, want)
		}
	}
	if wholeGraph(g)+wholeQuery(q) != before {
		t.Fatalf("Holds(%v, %+v) wrote into what was given", g, q)
	}
}

func checkOutRow(t *testing.T, q impl.Query, vals []int) {
	t.Helper()
	name := fmt.Sprintf("OutRow(%+v, %v)", q, vals)
	want := outRowByHand(q, vals)
	q, vals = roomyQuery(q), roomyRow(vals)
	before := wholeQuery(q) + wholeRow(vals)
	got, again := impl.OutRow(q, vals), impl.OutRow(q, vals)
	if !slices.Equal(got, want) || !slices.Equal(again, want) {
		t.Errorf("%s = %v, and again %v; not %v", name, got, again, want)
	}
	if wholeQuery(q)+wholeRow(vals) != before {
		t.Errorf("%s wrote into what was given", name)
	}
	checkApart(t, name, []span{spanOfRow(got), spanOfRow(again)}, append(listsOfQuery(q), spanOfRow(vals)))
}

func checkMeaning(t *testing.T, g impl.Graph, q impl.Query) {
	t.Helper()
	want, right := meaningByHand(g, q)
	checkMeans(t, g, q, want, right)
}

func checkMeans(t *testing.T, g impl.Graph, q impl.Query, want impl.Bag, right bool) {
	t.Helper()
	name := fmt.Sprintf("Meaning(%v, %+v)", g, q)
	g, q = roomyGraph(g), roomyQuery(q)
	before := wholeGraph(g) + wholeQuery(q)
	got, ok := impl.Meaning(g, q)
	again, againOk := impl.Meaning(g, q)
	if ok != right || !sameBag(got, want) {
		t.Fatalf("%s = %v, %v; not %v, %v", name, got, ok, want, right)
	}
	if againOk != right || !sameBag(again, want) {
		t.Fatalf("%s again = %v, %v; not %v, %v", name, again, againOk, want, right)
	}
	if ok && !impl.BagOk(got) {
		t.Fatalf("%s = %v, which is not right", name, got)
	}
	if wholeGraph(g)+wholeQuery(q) != before {
		t.Fatalf("%s wrote into what was given", name)
	}
	checkApart(t, name, append(spansOfBag(got), spansOfBag(again)...), append(spansOfGraph(g), listsOfQuery(q)...))
}

// fullGraphs have the most vertices and the most edges that there may be.
func fullGraphs() []impl.Graph {
	d := drawing{101}
	out := []impl.Graph{longGraph(impl.MaxEdges, 0, 1), longGraph(impl.MaxEdges, 13, 14), longGraph(impl.MaxEdges, 5, 11)}
	for range 3 {
		g := graph(impl.MaxVerts)
		for len(g.Edges) < impl.MaxEdges {
			g, _ = edgeAddedByHand(g, edge(d.below(12), "abcd"[d.below(4)], d.below(12)))
		}
		out = append(out, g)
	}
	return out
}

// meaningTexts are questions with each clause that there is, of one atom and of several.
var meaningTexts = []string{
	"x : x [a] y", "y : x [a] y", "x, y : x [a] y", "y, x : x [a] y", "each x : x [a] y", "each y, x : x [a|b] y", "x : x [a*] x", "each x : x [a+] x", "x, y : x [(a|b)*c?] y", "x : x [d] y",
	"x, y : x [a] y, x < y", "x, y : x [a*] y, y < x", "x, y : x [a*] y, x = y", "x, y : x [a?] y, x < 2", "x, y : x [b*] y, y = 1", "each y : x [a*] y, x = 0", "x : x [a*] y, x < y, y < 3, x = 1", "x : x [c|d] y, x = 99", "x : x [a*] y, x < 0",
	"x : x [a] y, y [b] z", "z : x [a] y, y [b] z", "z, x : x [a] y, y [a|b] z", "y, z, x : x [a] y, y [b*] z", "each x, z : x [a*] y, y [b] z", "x, y : x [a] y, y [a] x", "x, y : x [a*] y, x [b*] y", "x : x [a] y, x [a] z, y < z", "y, z : x [a] y, x [a] z",
	"x : x [a] x, x [a|b] y", "y : x [a*] x, x [b] y, y [c*] y", "x : x [a] y, z [b] w", "w, x : x [a] y, z [b] w, x < w", "each w, z : x [a] y, y [a*] z, z [b] w", "x, y, z : x [a] y, y [a] z, z [a*] x", "w, z, y, x : x [a] y, y [b] z, z [a|c] w, w [(a|b|c|d)*] x, x < w, y = 2",
	"x : x [a*] x, y [b?] y, z [c] z", "each b : ab [a+] b, b [a?] abcd, abcd [(ab)*] eac, ab < eac",
}

func meaningQueries(t *testing.T) []impl.Query {
	t.Helper()
	out := []impl.Query{}
	for _, text := range meaningTexts {
		out = append(out, mustAsk(t, text))
	}
	return out
}

var forkGraph = graph(4, edge(0, 'a', 1), edge(0, 'a', 2), edge(1, 'a', 1), edge(1, 'b', 3), edge(2, 'b', 3), edge(3, 'a', 0), edge(3, 'c', 3))

func TestMeaningThatIsKnown(t *testing.T) {
	for text, want := range map[string]impl.Bag{
		"x, y : x [a] y":                       bag(item(1, 0, 1), item(1, 0, 2), item(1, 1, 1), item(1, 3, 0)),
		"y, x : x [a] y":                       bag(item(1, 0, 3), item(1, 1, 0), item(1, 1, 1), item(1, 2, 0)),
		"x, y : y [a] x":                       bag(item(1, 0, 3), item(1, 1, 0), item(1, 1, 1), item(1, 2, 0)),
		"x : x [a] y":                          bag(item(2, 0), item(1, 1), item(1, 3)),
		"each x : x [a] y":                     bag(item(1, 0), item(1, 1), item(1, 3)),
		"y : x [a] y":                          bag(item(1, 0), item(2, 1), item(1, 2)),
		"each y : x [a] y":                     bag(item(1, 0), item(1, 1), item(1, 2)),
		"x : x [a] x":                          bag(item(1, 1)),
		"x : x [c*] x":                         bag(item(1, 0), item(1, 1), item(1, 2), item(1, 3)),
		"x, z : x [a] y, y [b] z":              bag(item(2, 0, 3), item(1, 1, 3)),
		"z, x : x [a] y, y [b] z":              bag(item(2, 3, 0), item(1, 3, 1)),
		"each z, x : x [a] y, y [b] z":         bag(item(1, 3, 0), item(1, 3, 1)),
		"z, y, x : x [a] y, y [b] z":           bag(item(1, 3, 1, 0), item(1, 3, 1, 1), item(1, 3, 2, 0)),
		"z : x [a] y, y [b] z":                 bag(item(3, 3)),
		"x, y : x [ab] y":                      bag(item(1, 0, 3), item(1, 1, 3)),
		"y : x [ab] y":                         bag(item(2, 3)),
		"x : x [a] y, x [a] z":                 bag(item(4, 0), item(1, 1), item(1, 3)),
		"x : x [a] y, x [a] y":                 bag(item(2, 0), item(1, 1), item(1, 3)),
		"x : x [a] y, x [a] z, y < z":          bag(item(1, 0)),
		"x : x [a] y, x [a] z, y = z":          bag(item(2, 0), item(1, 1), item(1, 3)),
		"x : x [a] y, z [a] w":                 bag(item(8, 0), item(4, 1), item(4, 3)),
		"each x : x [a] y, z [a] w":            bag(item(1, 0), item(1, 1), item(1, 3)),
		"w, x : x [b] y, z [c] w":              bag(item(1, 3, 1), item(1, 3, 2)),
		"x, y : x [a] y, y [a] x":              bag(item(1, 1, 1)),
		"x, y : x [a] y, y [a*] x":             bag(item(1, 1, 1)),
		"x, y : x [a] y, y [(a|b)*] x":         bag(item(1, 0, 1), item(1, 0, 2), item(1, 1, 1), item(1, 3, 0)),
		"x : x [a] x, x [b] y":                 bag(item(1, 1)),
		"x, y : x [b?] y, x = 2":               bag(item(1, 2, 2), item(1, 2, 3)),
		"x : x [d] y":                          bag(),
		"each x, y : x [cd] y":                 bag(),
		"x, y : x [a] y, x < y":                bag(item(1, 0, 1), item(1, 0, 2)),
		"x, y : x [a] y, y < x":                bag(item(1, 3, 0)),
		"x, y : x [a] y, x = y":                bag(item(1, 1, 1)),
		"x, y : x [a] y, y < 1":                bag(item(1, 3, 0)),
		"x, y : x [a] y, y = 2":                bag(item(1, 0, 2)),
		"x, y : x [a] y, y < 2, x < 3":         bag(item(1, 0, 1), item(1, 1, 1)),
		"x : x [a] y, y < 3, x < 2, x = 0":     bag(item(2, 0)),
		"x, y : x [a] y, x < 0":                bag(),
		"x, y : x [a] y, x = 99":               bag(),
		"x : x [a] y, x < 99":                  bag(item(2, 0), item(1, 1), item(1, 3)),
		"x : x [a] y, x < x":                   bag(),
		"x : x [a] y, x = x":                   bag(item(2, 0), item(1, 1), item(1, 3)),
		"x : x < 1, x [a] y":                   bag(item(2, 0)),
		"w : x [a] y, y [b] z, z [a] w":        bag(item(3, 0)),
		"z, w : x [a] y, y [b] z, z [a|c] w":   bag(item(3, 3, 0), item(3, 3, 3)),
		"each z : x [a] y, y [b] z, z [a|c] w": bag(item(1, 3)),
	} {
		q := mustAsk(t, text)
		if got, ok := impl.Meaning(forkGraph, q); !ok || !sameBag(got, want) {
			t.Errorf("the meaning of %q is %v, %v; not %v", text, got, ok, want)
		}
		checkMeaning(t, forkGraph, q)
		checkAllHolds(t, forkGraph, q)
	}
}

func TestHoldsThatIsKnown(t *testing.T) {
	for _, c := range []struct {
		text string
		vals []int
		want bool
	}{
		{"x : x [a] y", []int{0, 1}, true},
		{"x : x [a] y", []int{1, 0}, false},
		{"x : y [a] x", []int{0, 1}, true},
		{"x : y [a] x", []int{1, 0}, false},
		{"y : x [a] y", []int{3, 0}, true},
		{"x : x [a] x", []int{1}, true},
		{"x : x [a] x", []int{0}, false},
		{"x : x [a] y", []int{3, 3}, false},
		{"x : x [c] y", []int{3, 3}, true},
		{"x : x [a] y, y [b] z", []int{0, 1, 3}, true},
		{"x : x [a] y, y [b] z", []int{0, 2, 3}, true},
		{"x : x [a] y, y [b] z", []int{1, 1, 3}, true},
		{"x : x [a] y, y [b] z", []int{0, 1, 2}, false},
		{"x : x [a] y, y [b] z", []int{3, 1, 3}, false},
		{"x : y [b] z, x [a] y", []int{1, 3, 0}, true},
		{"x : y [b] z, x [a] y", []int{0, 1, 3}, false},
		{"x : z [b] y, x [a] z", []int{2, 3, 0}, true},
		{"x : x [a] y, y [b] z, z [a] x", []int{0, 2, 3}, true},
		{"x : x [a] y, y [b] z, z [a] x", []int{1, 1, 3}, false},
		{"x : x [a] y, z [c] w", []int{0, 2, 3, 3}, true},
		{"x : x [a] y, z [c] w", []int{3, 3, 0, 2}, false},
		{"x : x [a] y, x < y", []int{0, 1}, true},
		{"x : x [a] y, x < y", []int{1, 1}, false},
		{"x : x [a] y, x < y", []int{3, 0}, false},
		{"x : x [a] y, x = y", []int{1, 1}, true},
		{"x : x [a] y, x = y", []int{0, 1}, false},
		{"x : x [a] y, y < 2", []int{0, 1}, true},
		{"x : x [a] y, y < 2", []int{0, 2}, false},
		{"x : x [a] y, y = 2", []int{0, 2}, true},
		{"x : x [a] y, y = 2", []int{0, 1}, false},
		{"x : x [a] y, y = 2, x = 0, x < y", []int{0, 2}, true},
		{"x : x [a] y, y = 2, x = 0, y < x", []int{0, 2}, false},
		{"x : x [a] y, y < x, y = 2, x = 0", []int{0, 2}, false},
		{"x : x [a] y, y = 2, y < x, x = 0", []int{0, 2}, false},
	} {
		checkHolds(t, forkGraph, mustAsk(t, c.text), c.vals, c.want)
		checkHolds(t, forkGraph, withEach(mustAsk(t, c.text)), c.vals, c.want)
	}
}

func TestHoldsOfAllVals(t *testing.T) {
	graphs := []impl.Graph{graph(1), graph(1, edge(0, 'a', 0), edge(0, 'b', 0)), graph(2, edge(0, 'a', 1), edge(1, 'b', 1)), forkGraph, ringGraph(5)}
	for _, g := range graphs {
		for _, q := range meaningQueries(t) {
			checkAllHolds(t, g, q)
		}
	}
	drawn := drawnGraphs(500, 107)
	for i, q := range drawnQueries(500, 103) {
		if g := drawn[i]; g.Size <= 5 || len(namesByHand(q)) <= 2 {
			checkAllHolds(t, g, q)
		}
	}
}

func TestHoldsOfFullGraphs(t *testing.T) {
	d := drawing{109}
	graphs := fullGraphs()
	for i, q := range slices.Concat(meaningQueries(t), drawnQueries(200, 113)) {
		g := graphs[i%len(graphs)]
		for range 30 {
			vals := []int{}
			for range namesByHand(q) {
				vals = append(vals, d.below(g.Size))
			}
			checkHolds(t, g, q, vals, holdsByHand(g, q, vals))
		}
	}
}

// TestHoldsOfAnotherCountOfVals has vals of which each one would be so, if their count were right.
func TestHoldsOfAnotherCountOfVals(t *testing.T) {
	for names := 1; names <= 4; names++ {
		q := query("x", atom("x", "a*", "x"))
		for i := range names - 1 {
			q.Atoms = append(q.Atoms, atom("x", "a?", []string{"y", "z", "w"}[i]))
		}
		for _, g := range []impl.Graph{graph(1), ringGraph(3), graph(12)} {
			for count := range 10 {
				checkHolds(t, g, q, make([]int, count), count == names)
				checkHolds(t, g, withEach(q), slices.Repeat([]int{g.Size - 1}, count), count == names)
			}
			if impl.Holds(g, q, nil) || impl.Holds(g, q, []int{}) || impl.Holds(g, q, make([]int, 1000000)) {
				t.Errorf("no vals, or a million of them, hold in %v of %+v", g, q)
			}
		}
	}
}

// TestHoldsOfValsThatAreNoVertices asks of paths that may take nothing, and so lead from each vertex to itself.
func TestHoldsOfValsThatAreNoVertices(t *testing.T) {
	d := drawing{127}
	none := []int{math.MinInt, math.MinInt + 1, -1 << 32, -64, -16, -12, -2, -1, 0, 1, 12, 13, 16, 63, 64, 100, 1 << 16, 1 << 32, math.MaxInt - 1, math.MaxInt}
	for size := 1; size <= impl.MaxVerts; size++ {
		for _, q := range []impl.Query{
			query("x", atom("x", "a*", "x")), query("x", atom("x", "b?", "x")), query("x y", atom("x", "a*", "y")), query("y", atom("y", "a?", "x"), atom("x", "d*", "y")),
			query("w", atom("x", "a*", "x"), atom("y", "b*", "y"), atom("z", "c*", "z"), atom("w", "d*", "w")), withFilters(query("x", atom("x", "a*", "x")), than("x", 2, "x")), withFilters(query("x", atom("x", "a*", "y")), thanNum("y", 1, 99)),
		} {
			names := len(namesByHand(q))
			for _, v := range append(none, size-1, size, size+1) {
				checkHolds(t, ringGraph(size), q, slices.Repeat([]int{v}, names), v >= 0 && v < size)
				for place := range names {
					vals := make([]int, names)
					for i := range vals {
						vals[i] = d.below(size)
					}
					vals[place] = v
					checkHolds(t, ringGraph(size), q, vals, holdsByHand(ringGraph(size), q, vals))
				}
			}
		}
	}
}

// TestFiltersOfEachVal has an atom that is so of all vals, so that the filter alone says what holds.
func TestFiltersOfEachVal(t *testing.T) {
	g := ringGraph(impl.MaxVerts)
	xy := query("x y", atom("x", "a*", "y"))
	for num := range 100 {
		less, same := countedRows{}, countedRows{}
		for _, vals := range allValsByHand(12, 2) {
			if vals[1] < num {
				less.add(vals, 1)
			}
			if vals[1] == num {
				same.add(vals, 1)
			}
		}
		checkMeans(t, g, withFilters(xy, thanNum("y", 1, num)), less.bag(2, false), true)
		checkMeans(t, g, withFilters(xy, thanNum("y", 2, num)), same.bag(2, false), true)
	}
	for text, fits := range map[string]func(x, y int) bool{
		"x < y": func(x, y int) bool { return x < y }, "y < x": func(x, y int) bool { return y < x }, "x = y": func(x, y int) bool { return x == y }, "y = x": func(x, y int) bool { return x == y },
		"x < x": func(x, y int) bool { return false }, "x = x": func(x, y int) bool { return true }, "x < y, y < 11": func(x, y int) bool { return x < y && y < 11 }, "y < x, x < 11, y = 0": func(x, y int) bool { return x > 0 && x < 11 && y == 0 },
		"x < y, y < x": func(x, y int) bool { return false }, "x = 3, y = 3, x = y": func(x, y int) bool { return x == 3 && y == 3 }, "x < 4, y = 7, x < 2": func(x, y int) bool { return x < 2 && y == 7 },
	} {
		want := countedRows{}
		for _, vals := range allValsByHand(12, 2) {
			holds := fits(vals[0], vals[1])
			checkHolds(t, g, mustAsk(t, "y : x [a*] y, "+text), vals, holds)
			if holds {
				want.add(vals, 1)
			}
		}
		checkMeans(t, g, mustAsk(t, "x, y : x [a*] y, "+text), want.bag(2, false), true)
	}
}

func TestOutRowThatIsKnown(t *testing.T) {
	for _, c := range []struct {
		text string
		vals []int
		want []int
	}{
		{"x : x [a] y", []int{7, 8}, []int{7}},
		{"y : x [a] y", []int{7, 8}, []int{8}},
		{"x, y : x [a] y", []int{7, 8}, []int{7, 8}},
		{"y, x : x [a] y", []int{7, 8}, []int{8, 7}},
		{"x, y : y [a] x", []int{7, 8}, []int{8, 7}},
		{"x : x [a] x", []int{7}, []int{7}},
		{"z, x : x [a] y, y [b] z", []int{7, 8, 9}, []int{9, 7}},
		{"x : x [a] y, y [b] z", []int{7, 8, 9}, []int{7}},
		{"w, y, z, x : z [a] y, w [b] x", []int{7, 8, 9, 10}, []int{9, 8, 7, 10}},
		{"x, y : x [a] y, x < y", []int{8, 7}, []int{8, 7}},
		{"each x : x [a] y", []int{7, 8}, []int{7}},
		{"x, y : x [a] y", []int{7}, nil},
		{"x, y : x [a] y", []int{7, 8, 9}, nil},
		{"x, y : x [a] y", nil, nil},
		{"x : x [a] x", []int{7, 8}, nil},
		{"x : x [a] x", []int{}, nil},
		{"x, y : x [a] y", []int{-1, 12}, []int{-1, 12}},
		{"y, x : x [a] y", []int{math.MinInt, math.MaxInt}, []int{math.MaxInt, math.MinInt}},
		{"x, y : x [a] y, x = 3, y < 0", []int{100, -100}, []int{100, -100}},
	} {
		q := mustAsk(t, c.text)
		if got := impl.OutRow(q, c.vals); !slices.Equal(got, c.want) {
			t.Errorf("OutRow(%q, %v) = %v; not %v", c.text, c.vals, got, c.want)
		}
		checkOutRow(t, q, c.vals)
	}
}

// choices are all ways to take some of these, in each order; none is not a way.
func choices(names []string) [][]string {
	out := [][]string{}
	for i, name := range names {
		out = append(out, []string{name})
		for _, more := range choices(slices.Concat(names[:i], names[i+1:])) {
			out = append(out, append([]string{name}, more...))
		}
	}
	return out
}

func TestOutRowOfEachOut(t *testing.T) {
	d := drawing{131}
	far := []int{math.MinInt, -1 << 40, -1, 0, 1, 3, 11, 12, 13, 99, 100, 1000000001, 1 << 40, math.MaxInt}
	for _, q := range slices.Concat(rightQueries(), drawnQueries(60, 137), []impl.Query{chainQuery("x", "y", "z", "w"), longQuery(0), longQuery(3)}) {
		names := namesByHand(q)
		for _, out := range choices(names) {
			q.Out = out
			for count := range 7 {
				vals := []int{}
				for range count {
					vals = append(vals, far[d.below(len(far))])
				}
				if got := impl.OutRow(q, vals); len(got) != len(out) && count == len(names) || len(got) != 0 && count != len(names) {
					t.Errorf("OutRow(%+v, %v) = %v", q, vals, got)
				}
				checkOutRow(t, q, vals)
			}
		}
	}
}

func TestMeaningIsAsByHand(t *testing.T) {
	for _, g := range slices.Concat(rightGraphs(), ringGraphs(), drawnGraphs(5, 139)) {
		for _, q := range meaningQueries(t) {
			if g.Size <= 6 || len(namesByHand(q)) <= 3 {
				checkMeaning(t, g, q)
			}
		}
	}
	for _, q := range rightQueries() {
		checkMeaning(t, forkGraph, q)
	}
}

func TestMeaningOfDrawnQuestions(t *testing.T) {
	graphs := slices.DeleteFunc(drawnGraphs(400, 149), func(g impl.Graph) bool { return g.Size > 7 })
	for i, q := range drawnQueries(1200, 151) {
		checkMeaning(t, graphs[i%len(graphs)], q)
	}
}

func TestMeaningOfFullGraphs(t *testing.T) {
	graphs := fullGraphs()
	for i, g := range graphs {
		if len(g.Edges) != 40 || g.Size != 12 || !rightGraph(g) {
			t.Fatalf("the test itself is wrong: %v", g)
		}
		for k, q := range slices.Concat(meaningQueries(t), drawnQueries(60, 157)) {
			if k%len(graphs) == i || len(namesByHand(q)) <= 2 {
				checkMeaning(t, g, q)
			}
		}
	}
}

// TestMeaningOfOneVertex has one val for each name, which holds or not.
func TestMeaningOfOneVertex(t *testing.T) {
	for _, g := range []impl.Graph{graph(1), graph(1, edge(0, 'a', 0)), graph(1, edge(0, 'b', 0)), graph(1, edge(0, 'a', 0), edge(0, 'b', 0)), rightGraphs()[5]} {
		a, b := len(nextByHand(g, 0, 'a')) == 1, len(nextByHand(g, 0, 'b')) == 1
		for text, holds := range map[string]bool{
			"x : x [a] x": a, "x : x [a] y": a, "y, x : x [b] y": b, "x : x [a*] x": true, "x, y, z, w : x [b?] y, z [a*] w": true, "x : x [a] y, y [b] z": a && b, "x : x [a|b] y": a || b, "each z : x [a] y, z [b*] z": a,
			"x : x [a] x, x < 1": a, "x : x [a] x, x < 0": false, "x : x [a] x, x = 0": a, "x : x [a] x, x = 1": false, "x : x [a] y, x = y": a, "x : x [a] y, x < y": false,
		} {
			q, want := mustAsk(t, text), bag()
			if holds {
				want = bag(item(1, make([]int, len(q.Out))...))
			}
			checkMeans(t, g, q, want, true)
			checkHolds(t, g, q, make([]int, len(namesByHand(q))), holds)
		}
	}
}

// rowsGraph has this many rows of x, y and z for which x [a*] y and y [b] z: an edge b from y stands for y + 1 of them.
func rowsGraph(count int) impl.Graph {
	fromThere := [12]int{}
	for y := 11; y >= 0; y-- {
		fromThere[y] = min(count/(y+1), 12)
		count -= fromThere[y] * (y + 1)
	}
	g := graph(12)
	for y, edges := range fromThere {
		if y < 11 {
			g.Edges = append(g.Edges, edge(y, 'a', y+1))
		}
		for z := range edges {
			g.Edges = append(g.Edges, edge(y, 'b', z))
		}
	}
	return g
}

func TestMeaningAtTheMostItems(t *testing.T) {
	for count := range 321 {
		g := rowsGraph(count)
		if !rightGraph(g) {
			t.Fatalf("the test itself is wrong: %v", g)
		}
		for _, out := range []string{"x, y, z", "z, x, y", "each y, z, x"} {
			// A fourth name, for which there are one or two vals, makes no more rows of the others.
			for _, more := range []string{"", ", y [a?] w"} {
				text := out + " : x [a*] y, y [b] z" + more
				got, ok := impl.Meaning(g, mustAsk(t, text))
				if ok != (count <= 300) || ok && len(got.Items) != count || !ok && len(got.Items) != 0 {
					t.Errorf("of %d rows %q tells %d Items, %v", count, text, len(got.Items), ok)
				}
			}
		}
		if count%50 < 2 {
			checkMeaning(t, g, mustAsk(t, "x, y, z : x [a*] y, y [b] z"))
			checkMeaning(t, g, mustAsk(t, "each y, z, x : x [a*] y, y [b] z, y [a?] w"))
			checkMeaning(t, g, mustAsk(t, "y : x [a*] y, y [b] z"))
		}
	}
}

// TestMeaningOfAllVals has questions of which all vals hold: of four names up to 20736.
func TestMeaningOfAllVals(t *testing.T) {
	power := func(size, count int) int { return len(allValsByHand(size, count)) }
	for size := 1; size <= impl.MaxVerts; size++ {
		for _, names := range [][]string{{"x", "y"}, {"x", "y", "z"}, {"x", "y", "z", "w"}} {
			q := query("x", atom("x", "a*", "y"))
			for i := range names[2:] {
				q.Atoms = append(q.Atoms, atom(names[i+1], "(aa)*a?", names[i+2]))
			}
			for wide := 1; wide <= len(names); wide++ {
				q.Out = slices.Clone(names[:wide])
				slices.Reverse(q.Out)
				all, each := countedRows{}, countedRows{}
				for _, row := range allValsByHand(size, wide) {
					all.add(row, power(size, len(names)-wide))
					each.add(row, 1)
				}
				if power(size, wide) > 300 {
					checkMeans(t, ringGraph(size), q, bag(), false)
					checkMeans(t, ringGraph(size), withEach(q), bag(), false)
				} else {
					checkMeans(t, ringGraph(size), q, all.bag(wide, false), true)
					checkMeans(t, ringGraph(size), withEach(q), each.bag(wide, false), true)
				}
			}
		}
	}
}

// TestNamesThatAreNotAskedFor holds each Out against the one of all names: a row is there as often as all of those that it is a part of.
func TestNamesThatAreNotAskedFor(t *testing.T) {
	graphs := append(smallGraphs(), forkGraph, ringGraph(4))
	for i, q := range slices.Concat(meaningQueries(t), drawnQueries(150, 163)) {
		g := graphs[i%len(graphs)]
		names := namesByHand(q)
		whole := q
		whole.Each, whole.Out = false, names
		all, ok := impl.Meaning(g, whole)
		if !ok {
			t.Fatalf("Meaning(%v, %+v) is refused", g, whole)
		}
		for _, out := range choices(names) {
			rows := countedRows{}
			for _, x := range all.Items {
				row := []int{}
				for _, name := range out {
					row = append(row, x.Row[slices.Index(names, name)])
				}
				rows.add(row, x.Times)
			}
			q.Out, q.Each = out, false
			checkMeans(t, g, q, rows.bag(len(out), false), true)
			checkMeans(t, g, withEach(q), rows.bag(len(out), true), true)
		}
	}
}

// TestNamesOfTheirOwn has a second atom whose names nobody asks for: it counts each row as often as it is so itself, and none when it never is.
func TestNamesOfTheirOwn(t *testing.T) {
	for _, g := range append(smallGraphs(), forkGraph, ringGraph(7)) {
		for _, path := range []string{"a", "b", "a*", "a|b", "d", "ab?"} {
			pairs := len(pairsByHand(g, mustRead(t, path)))
			want, _ := meaningByHand(g, mustAsk(t, "x, y : x [a] y"))
			for i := range want.Items {
				want.Items[i].Times = pairs
			}
			if pairs == 0 {
				want = bag()
			}
			checkMeans(t, g, mustAsk(t, "x, y : x [a] y, z ["+path+"] w"), want, true)
			checkMeans(t, g, mustAsk(t, "x, y : z ["+path+"] w, x [a] y"), want, true)
			checkMeans(t, g, mustAsk(t, "each x, y : z ["+path+"] w, x [a] y"), impl.BagEach(want), true)
		}
	}
}

// TestNamesOnBothSides has one name on both sides of an atom: from each vertex back to itself.
func TestNamesOnBothSides(t *testing.T) {
	for _, g := range graphsToLead(10, 167) {
		for _, text := range []string{"a", "a+", "b|c", "(a|b)+", "abc?", "d*"} {
			want := bag()
			for v := range g.Size {
				if slices.Contains(endsByHand(g, mustRead(t, text), v), v) {
					want.Items = append(want.Items, item(1, v))
				}
			}
			checkMeans(t, g, query("x", atom("x", text, "x")), want, true)
			checkMeans(t, g, withFilters(query("x", atom("x", text, "y")), than("x", 2, "y")), want, true)
			checkMeans(t, g, query("x", atom("x", text, "x"), atom("x", text, "x")), want, true)
		}
	}
}

// TestMeaningInWhateverOrder has atoms and filters the other way round: names are met in another order, but mean what they meant.
func TestMeaningInWhateverOrder(t *testing.T) {
	graphs := append(smallGraphs(), forkGraph, ringGraph(5))
	for i, q := range slices.Concat(meaningQueries(t), drawnQueries(300, 173)) {
		g := graphs[i%len(graphs)]
		want, ok := impl.Meaning(g, q)
		turn := roomyQuery(q)
		slices.Reverse(turn.Atoms)
		slices.Reverse(turn.Filters)
		checkMeans(t, g, turn, want, ok)
		again := roomyQuery(q)
		again.Atoms = append(again.Atoms[:len(q.Atoms):len(q.Atoms)], q.Atoms[0])
		if len(again.Atoms) <= impl.MaxAtoms {
			checkMeans(t, g, again, want, ok)
		}
	}
}

// checkOtherWayRound asks a question and the one with some of its atoms turned; of the same names, which are met in another order.
func checkOtherWayRound(t *testing.T, g, back impl.Graph, q, swapped impl.Query) {
	t.Helper()
	want, right := impl.Meaning(g, q)
	if got, ok := impl.Meaning(back, swapped); ok != right || !sameBag(got, want) {
		t.Fatalf("Meaning(%v, %+v) = %v, %v; %+v meant %v, %v in %v", back, swapped, got, ok, q, want, right, g)
	}
	names, other := namesByHand(q), namesByHand(swapped)
	all := allValsByHand(g.Size, len(names))
	for i := 0; i < len(all); i += 1 + len(all)/200 {
		vals := make([]int, len(names))
		for place, name := range other {
			vals[place] = all[i][slices.Index(names, name)]
		}
		if holds := impl.Holds(g, q, all[i]); impl.Holds(back, swapped, vals) != holds {
			t.Fatalf("Holds(%v, %+v, %v) is not %v, as %v of %+v in %v", back, swapped, vals, holds, all[i], q, g)
		}
	}
}

// TestAnAtomIsAskedTheOtherWayRound has the swapped atom alone, and all of a question, in the graph that is turned.
func TestAnAtomIsAskedTheOtherWayRound(t *testing.T) {
	graphs := slices.Concat(rightGraphs(), ringGraphs()[:5], drawnGraphs(30, 179), fullGraphs(), []impl.Graph{forkGraph})
	for i, q := range slices.Concat(meaningQueries(t), drawnQueries(500, 181)) {
		g := graphs[i%len(graphs)]
		back := impl.Turned(g)
		whole := q
		for k, a := range q.Atoms {
			one := withFilters(query("", a), slices.DeleteFunc(slices.Clone(q.Filters), func(f impl.Filter) bool {
				return f.Left != a.From && f.Left != a.To || f.Right != "" && f.Right != a.From && f.Right != a.To
			})...)
			one.Each, one.Out = i%2 == 0, namesByHand(one)[i%len(namesByHand(one)):]
			swapped, ok := impl.Swapped(one, 0)
			if !ok {
				t.Fatalf("Swapped(%+v, 0) is refused", one)
			}
			checkOtherWayRound(t, g, back, one, swapped)
			if whole, ok = impl.Swapped(whole, k); !ok {
				t.Fatalf("Swapped of %+v at %d is refused", whole, k)
			}
		}
		checkOtherWayRound(t, g, back, q, whole)
	}
}

func TestTheOtherWayRoundThatIsKnown(t *testing.T) {
	back := impl.Turned(forkGraph)
	swapped, _ := impl.Swapped(mustAsk(t, "x, y : x [ab*] y, x < y"), 0)
	want := bag(item(1, 0, 1), item(1, 0, 2), item(1, 0, 3), item(1, 1, 3))
	checkMeans(t, forkGraph, mustAsk(t, "x, y : x [ab*] y, x < y"), want, true)
	checkMeans(t, back, swapped, want, true)
	checkMeans(t, forkGraph, swapped, bag(item(1, 0, 1), item(1, 0, 2), item(1, 0, 3)), true)
	checkHolds(t, back, swapped, []int{3, 0}, true)
	checkHolds(t, back, swapped, []int{0, 3}, false)
	checkMeans(t, back, mustAsk(t, "y, x : x [a] y"), bag(item(1, 0, 1), item(1, 0, 2), item(1, 1, 1), item(1, 3, 0)), true)
}

func TestMeaningOfWrongGraphs(t *testing.T) {
	for name, g := range wrongGraphs() {
		for _, text := range []string{"x : x [a*] x", "x : x [a] y", "each x : x [d?] y", "x : x [a*] y, x < 99", "x : x [a*] y, z [a?] w"} {
			q := mustAsk(t, text)
			for _, v := range []int{0, 1, 2, 3, 11, 12, -1} {
				vals := slices.Repeat([]int{v}, len(namesByHand(q)))
				checkHolds(t, g, q, vals, false)
			}
			if got, ok := impl.Meaning(g, q); ok || len(got.Items) != 0 {
				t.Errorf("Meaning of a graph with %s, %q = %v, %v; not refused", name, text, got, ok)
			}
			checkMeaning(t, g, q)
			if impl.Holds(g, q, nil) || impl.Holds(g, q, []int{}) {
				t.Errorf("no vals hold in a graph with %s of %q", name, text)
			}
		}
		for wrong, q := range wrongQueries() {
			if got, ok := impl.Meaning(g, q); ok || len(got.Items) != 0 || impl.Holds(g, q, []int{0, 0}) {
				t.Errorf("Meaning of a graph with %s, and %s = %v, %v; not refused", name, wrong, got, ok)
			}
		}
	}
}

func TestMeaningOfWrongQuestions(t *testing.T) {
	for name, q := range wrongQueries() {
		for _, g := range []impl.Graph{graph(1, edge(0, 'a', 0), edge(0, 'b', 0)), forkGraph, ringGraph(12)} {
			if got, ok := impl.Meaning(g, q); ok || len(got.Items) != 0 {
				t.Errorf("Meaning of %s = %v, %v; not refused", name, got, ok)
			}
			checkMeaning(t, g, q)
			for count := range 7 {
				checkHolds(t, g, q, make([]int, count), false)
			}
			if impl.Holds(g, q, nil) || impl.Holds(g, q, make([]int, len(namesByHand(q)))) {
				t.Errorf("Holds of %s", name)
			}
		}
		for count := range 10 {
			if got := impl.OutRow(q, make([]int, count)); len(got) != 0 {
				t.Errorf("OutRow of %s and %d vals = %v; not nothing", name, count, got)
			}
			checkOutRow(t, q, make([]int, count))
		}
		if got := impl.OutRow(q, nil); len(got) != 0 {
			t.Errorf("OutRow of %s and no vals = %v; not nothing", name, got)
		}
		checkOutRow(t, q, make([]int, len(namesByHand(q))))
	}
}

// TestGreatArguments are soon refused.
func TestGreatArguments(t *testing.T) {
	great := impl.Query{Out: slices.Repeat([]string{"x"}, 1000000), Atoms: slices.Repeat([]impl.Atom{atom("x", "a*", "x")}, 1000000), Filters: slices.Repeat([]impl.Filter{thanNum("x", 1, 1)}, 1000000)}
	long := query("x", atom("x", strings.Repeat("(", 10000000), "x"))
	edges := impl.Graph{Size: 12, Edges: make([]impl.Edge, 5000000)}
	vals := make([]int, 5000000)
	x := query("x", atom("x", "a*", "x"))
	for _, g := range []impl.Graph{graph(1), edges} {
		for _, q := range []impl.Query{x, great, long} {
			right := g.Size == 1 && len(q.Out) == 1 && len(q.Atoms[0].Path) == 2
			if _, ok := impl.Meaning(g, q); ok != right || impl.Holds(g, q, []int{0}) != right || impl.Holds(g, q, vals) || len(impl.OutRow(q, vals)) != 0 {
				t.Errorf("great arguments: a graph of %d edges, a question of %d atoms", len(g.Edges), len(q.Atoms))
			}
		}
	}
}

// TestQuestionsThatAreNotShown are right all the same: of more bytes than a question that is read may have.
func TestQuestionsThatAreNotShown(t *testing.T) {
	q := longQuery(0)
	q.Filters[2] = than("bcde", 1, "defg")
	for i, path := range []string{"(a|b|c|d|a|b|c|d|a)*", "(((((((((a)))))))))*", "(abcdabcdabcdabcda)?", "((((((((a|b))))))))*"} {
		q.Atoms[i].Path = path
	}
	if _, ok := impl.ShowQuery(q); ok || !rightQuery(q) {
		t.Fatal("the test itself is wrong: the question is shown, or not right")
	}
	for _, g := range []impl.Graph{forkGraph, ringGraph(4), ringGraph(12), graph(2)} {
		checkMeaning(t, g, longQuery(0))
		for most := range 4 {
			less := q
			less.Filters = q.Filters[most:]
			checkMeaning(t, g, less)
			if g.Size < 12 {
				checkAllHolds(t, g, less)
			}
		}
	}
}

// TestMeaningOfListsInOneMemory has all lists of a question side by side in one memory, each with the next one in its spare room.
func TestMeaningOfListsInOneMemory(t *testing.T) {
	names := []string{"y", "x", "z", "each"}
	atoms := []impl.Atom{atom("x", "a", "y"), atom("y", "b", "z"), atom("each", "", "each")}
	filters := []impl.Filter{than("x", 1, "z"), {Op: 9}}
	q := impl.Query{Out: names[:2], Atoms: atoms[:2], Filters: filters[:1]}
	edges := append(slices.Clone(forkGraph.Edges), edge(-1, 'z', 77))
	g := impl.Graph{Size: 4, Edges: edges[:len(edges)-1]}
	vals := []int{0, 1, 3, -5}
	before := wholeQuery(q) + wholeGraph(g) + wholeRow(vals)
	b, ok := impl.Meaning(g, q)
	if want := bag(item(1, 1, 0), item(1, 1, 1), item(1, 2, 0)); !ok || !sameBag(b, want) {
		t.Errorf("Meaning = %v, %v; not %v", b, ok, want)
	}
	row := impl.OutRow(q, vals[:3])
	if !slices.Equal(row, []int{1, 0}) || !impl.Holds(g, q, vals[:3]) || impl.Holds(g, q, vals[1:]) {
		t.Errorf("OutRow = %v, or what holds doesn't", row)
	}
	checkApart(t, "OutRow", []span{spanOfRow(row)}, []span{spanOfRow(vals)})
	for i := range b.Items {
		b.Items[i].Row[0] = 50
		b.Items[i].Times = 60
	}
	row[0] = 70
	if wholeQuery(q)+wholeGraph(g)+wholeRow(vals) != before {
		t.Error("what was given has been written into")
	}
	if again, ok := impl.Meaning(g, q); !ok || again.Items[0].Row[0] != 1 || again.Items[0].Times != 1 {
		t.Errorf("Meaning again = %v, %v", again, ok)
	}
}
