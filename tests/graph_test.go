package tests

import (
	"fmt"
	"math"
	"slices"
	"testing"
	"unsafe"

	"loop.example/g00250/impl"
)

func edge(from int, label byte, to int) impl.Edge {
	return impl.Edge{From: from, Label: label, To: to}
}

func graph(size int, edges ...impl.Edge) impl.Graph { return impl.Graph{Size: size, Edges: edges} }

func sameGraph(a, b impl.Graph) bool { return a.Size == b.Size && slices.Equal(a.Edges, b.Edges) }

// longGraph has this many edges of MaxVerts vertices: of all there may be, in order, the first one and then each step-th one.
func longGraph(count, first, step int) impl.Graph {
	g := graph(impl.MaxVerts)
	for i := range count {
		g.Edges = append(g.Edges, countedEdge(first+i*step))
	}
	return g
}

// countedEdge is the edge that stands at this place among all of MaxVerts vertices.
func countedEdge(n int) impl.Edge {
	return edge(n/48, "abcd"[n/12%4], n%12)
}

// roomyGraph has spare room behind its edges, with right edges of its own in it.
func roomyGraph(g impl.Graph) impl.Graph {
	out := append(make([]impl.Edge, 0, len(g.Edges)+3), g.Edges...)
	spare := out[len(out):cap(out)]
	for i := range spare {
		spare[i] = edge(0, 'd', i)
	}
	return impl.Graph{Size: g.Size, Edges: out}
}

// wholeGraph tells all of a graph, the place of its edges and the room behind them too.
func wholeGraph(g impl.Graph) string {
	return fmt.Sprintf("%d %p %d %v", g.Size, g.Edges, len(g.Edges), g.Edges[:cap(g.Edges)])
}

func spansOfGraph(g impl.Graph) []span {
	from := uintptr(unsafe.Pointer(unsafe.SliceData(g.Edges)))
	return []span{{from, from + uintptr(cap(g.Edges))*unsafe.Sizeof(impl.Edge{})}}
}

// lessByHand goes by all three at once: each is a figure of one list of numbers.
func lessByHand(a, b impl.Edge) bool {
	return slices.Compare([]int{a.From, int(a.Label), a.To}, []int{b.From, int(b.Label), b.To}) < 0
}

// rightGraph is the chapter's sentence, clause by clause.
func rightGraph(g impl.Graph) bool {
	right := g.Size >= 1 && g.Size <= 12 && len(g.Edges) <= 40
	for i, e := range g.Edges {
		right = right && e.From >= 0 && e.From <= g.Size-1 && e.To >= 0 && e.To <= g.Size-1
		right = right && (e.Label == 97 || e.Label == 98 || e.Label == 99 || e.Label == 100)
		right = right && (i == 0 || lessByHand(g.Edges[i-1], e))
	}
	return right
}

// edgeAddedByHand looks for the edge's place in the list, without a sort.
func edgeAddedByHand(g impl.Graph, e impl.Edge) (impl.Graph, bool) {
	if !rightGraph(g) {
		return g, false
	}
	at := 0
	for at < len(g.Edges) && lessByHand(g.Edges[at], e) {
		at++
	}
	if at < len(g.Edges) && !lessByHand(e, g.Edges[at]) {
		return g, true
	}
	out := graph(g.Size, slices.Concat(g.Edges[:at], []impl.Edge{e}, g.Edges[at:])...)
	if !rightGraph(out) {
		return g, false
	}
	return out, true
}

// nextByHand takes, again and again, the least To above the last one.
func nextByHand(g impl.Graph, from int, label byte) []int {
	out := []int{}
	for {
		least, found := 0, false
		for _, e := range g.Edges {
			fits := e.From == from && e.Label == label && (len(out) == 0 || e.To > out[len(out)-1])
			if fits && (!found || e.To < least) {
				least, found = e.To, true
			}
		}
		if !found {
			return out
		}
		out = append(out, least)
	}
}

// turnedByHand goes through all edges that there may be, in order, and keeps those that are there the other way round.
func turnedByHand(g impl.Graph) impl.Graph {
	if !rightGraph(g) {
		return g
	}
	out := graph(g.Size)
	for n := range 12 * 48 {
		e := countedEdge(n)
		if slices.Contains(g.Edges, edge(e.To, e.Label, e.From)) {
			out.Edges = append(out.Edges, e)
		}
	}
	return out
}

// graphTextByHand tells a graph whether it is right or not.
func graphTextByHand(g impl.Graph) string {
	out := varByHand(g.Size) + varByHand(len(g.Edges))
	for _, e := range g.Edges {
		out += varByHand(e.From) + string([]byte{e.Label}) + varByHand(e.To)
	}
	return out
}

// readGraphByHand has no limits of its own but those of rightGraph: in a right graph's text each number is one byte.
func readGraphByHand(text string) (impl.Graph, bool) {
	if len(text) < 2 || (len(text)-2)%3 != 0 {
		return impl.Graph{}, false
	}
	g := graph(int(text[0]))
	for at := 2; at < len(text); at += 3 {
		g.Edges = append(g.Edges, edge(int(text[at]), text[at+1], int(text[at+2])))
	}
	if int(text[1]) != len(g.Edges) || !rightGraph(g) {
		return impl.Graph{}, false
	}
	return g, true
}

// checkEdgeAdd also asks that nothing is written into what is given, and that the answer is new memory.
func checkEdgeAdd(t *testing.T, g impl.Graph, e impl.Edge) {
	t.Helper()
	name := fmt.Sprintf("GraphAdd(%v, %v)", g, e)
	want, right := edgeAddedByHand(g, e)
	g = roomyGraph(g)
	before := wholeGraph(g)
	got, ok := impl.GraphAdd(g, e)
	if ok != right || !sameGraph(got, want) {
		t.Errorf("%s = %v, %v; not %v, %v", name, got, ok, want, right)
	}
	if wholeGraph(g) != before {
		t.Errorf("%s wrote into what was given", name)
	}
	checkApart(t, name, spansOfGraph(got), spansOfGraph(g))
}

func checkNext(t *testing.T, g impl.Graph, from int, label byte) {
	t.Helper()
	name := fmt.Sprintf("NextOf(%v, %d, %q)", g, from, label)
	want := nextByHand(g, from, label)
	g = roomyGraph(g)
	before := wholeGraph(g)
	got := impl.NextOf(g, from, label)
	if !slices.Equal(got, want) {
		t.Errorf("%s = %v; not %v", name, got, want)
	}
	if wholeGraph(g) != before {
		t.Errorf("%s wrote into what was given", name)
	}
	checkApart(t, name, []span{spanOfRow(got)}, spansOfGraph(g))
}

func checkTurned(t *testing.T, g impl.Graph) {
	t.Helper()
	name := fmt.Sprintf("Turned(%v)", g)
	want := turnedByHand(g)
	g = roomyGraph(g)
	before := wholeGraph(g)
	got := impl.Turned(g)
	if !sameGraph(got, want) {
		t.Errorf("%s = %v; not %v", name, got, want)
	}
	twice := impl.Turned(got)
	if !sameGraph(twice, g) {
		t.Errorf("%s, turned again, = %v", name, twice)
	}
	if wholeGraph(g) != before {
		t.Errorf("%s wrote into what was given", name)
	}
	checkApart(t, name, append(spansOfGraph(got), spansOfGraph(twice)...), spansOfGraph(g))
}

// checkGraphText asks for this text of the graph, and for the graph of this text.
func checkGraphText(t *testing.T, g impl.Graph, text string) {
	t.Helper()
	g = roomyGraph(g)
	before := wholeGraph(g)
	if s, ok := impl.GraphText(g); s != text || !ok {
		t.Errorf("GraphText(%v) = %q, %v; not %q", g, s, ok, text)
	}
	if wholeGraph(g) != before {
		t.Errorf("GraphText(%v) wrote into what was given", g)
	}
	got, ok := impl.ReadGraph(text)
	if !ok || !sameGraph(got, g) {
		t.Errorf("ReadGraph(%q) = %v, %v; not %v", text, got, ok, g)
	}
	checkApart(t, "ReadGraph", spansOfGraph(got), spansOfGraph(g))
}

// checkGraphAsTold asks, of a text that may be another graph's, for just what is told of it by hand.
func checkGraphAsTold(t *testing.T, text string) {
	t.Helper()
	g, ok := impl.ReadGraph(text)
	if want, right := readGraphByHand(text); ok != right || !sameGraph(g, want) {
		t.Fatalf("ReadGraph(%q) = %v, %v; not %v, %v", text, g, ok, want, right)
	}
}

func checkNoGraph(t *testing.T, name, text string) {
	t.Helper()
	if g, ok := impl.ReadGraph(text); ok || !sameGraph(g, impl.Graph{}) {
		t.Errorf("ReadGraph of %s, %q = %v, %v; not refused", name, text, g, ok)
	}
}

// wrongGraphs has one fault each, all else being right.
func wrongGraphs() map[string]impl.Graph {
	return map[string]impl.Graph{
		"nothing":                    {},
		"a Size of 0":                graph(0),
		"a Size of 0 and an edge":    graph(0, edge(0, 'a', 0)),
		"a Size below 0":             graph(-1),
		"a Size one above":           graph(impl.MaxVerts + 1),
		"a Size above and edges":     graph(impl.MaxVerts+1, edge(0, 'a', 1), edge(1, 'b', 0)),
		"a great Size":               graph(math.MaxInt, edge(0, 'a', 1)),
		"a least Size":               graph(math.MinInt),
		"an edge twice":              graph(3, edge(0, 'a', 1), edge(0, 'a', 1)),
		"an edge twice, then more":   graph(3, edge(0, 'a', 2), edge(0, 'a', 2), edge(1, 'b', 0)),
		"the last edge twice":        graph(3, edge(0, 'a', 1), edge(0, 'a', 2), edge(2, 'd', 2), edge(2, 'd', 2)),
		"an edge thrice":             graph(2, edge(1, 'c', 0), edge(1, 'c', 0), edge(1, 'c', 0)),
		"an edge twice, apart":       graph(3, edge(0, 'a', 1), edge(0, 'a', 2), edge(0, 'a', 1)),
		"From out of order":          graph(3, edge(1, 'a', 0), edge(0, 'a', 0)),
		"Label out of order":         graph(3, edge(1, 'b', 0), edge(1, 'a', 2)),
		"To out of order":            graph(3, edge(1, 'a', 2), edge(1, 'a', 1)),
		"out of order at the end":    graph(3, edge(0, 'a', 0), edge(2, 'a', 0), edge(1, 'd', 2)),
		"Label ahead of From":        graph(3, edge(1, 'a', 0), edge(0, 'b', 0)),
		"To ahead of Label":          graph(3, edge(0, 'b', 0), edge(0, 'a', 1)),
		"a From of Size":             graph(3, edge(0, 'a', 0), edge(3, 'a', 0)),
		"a From below 0":             graph(3, edge(-1, 'a', 0), edge(0, 'a', 0)),
		"a great From":               graph(3, edge(math.MaxInt, 'a', 0)),
		"a least From":               graph(3, edge(math.MinInt, 'a', 0)),
		"a To of Size":               graph(3, edge(0, 'a', 0), edge(0, 'a', 3)),
		"a To below 0":               graph(3, edge(0, 'a', -1), edge(0, 'a', 0)),
		"a great To":                 graph(3, edge(0, 'a', math.MaxInt)),
		"a least To":                 graph(3, edge(0, 'a', math.MinInt)),
		"a From of MaxVerts":         graph(impl.MaxVerts, edge(impl.MaxVerts, 'a', 0)),
		"a To of MaxVerts":           graph(impl.MaxVerts, edge(0, 'a', impl.MaxVerts)),
		"a vertex 1 of a Size of 1":  graph(1, edge(0, 'a', 1)),
		"the Label ahead of a":       graph(3, edge(0, 'a'-1, 1)),
		"the Label behind d":         graph(3, edge(0, 'd'+1, 1)),
		"a Label of 0":               graph(3, edge(0, 0, 1)),
		"a Label of 255":             graph(3, edge(0, 255, 1)),
		"a Label A":                  graph(3, edge(0, 'A', 1)),
		"one edge too many":          longGraph(impl.MaxEdges+1, 0, 1),
		"many edges too many":        longGraph(576, 0, 1),
		"too many, one of them same": graph(impl.MaxVerts, append(longGraph(impl.MaxEdges, 0, 1).Edges, countedEdge(impl.MaxEdges-1))...),
		"a fault in the last edge":   graph(impl.MaxVerts, append(longGraph(impl.MaxEdges-1, 0, 1).Edges, edge(11, 'd', 12))...),
	}
}

func rightGraphs() []impl.Graph {
	return []impl.Graph{
		graph(1), graph(2), graph(impl.MaxVerts), {Size: 1, Edges: []impl.Edge{}},
		graph(1, edge(0, 'a', 0)), graph(1, edge(0, 'a', 0), edge(0, 'b', 0), edge(0, 'c', 0), edge(0, 'd', 0)),
		graph(3, edge(0, 'a', 1), edge(1, 'a', 2), edge(2, 'b', 0)), graph(3, edge(2, 'b', 0)), graph(2, edge(0, 'd', 1), edge(1, 'a', 0)),
		graph(3, edge(1, 'b', 0), edge(1, 'b', 1), edge(1, 'b', 2)), graph(3, edge(0, 'b', 1), edge(1, 'b', 1), edge(2, 'b', 1)),
		graph(impl.MaxVerts, edge(0, 'a', 0), edge(0, 'a', 11), edge(0, 'd', 11), edge(11, 'a', 0), edge(11, 'a', 11), edge(11, 'd', 11)),
		graph(5, edge(0, 'a', 4), edge(1, 'a', 3), edge(2, 'a', 2), edge(3, 'a', 1), edge(4, 'a', 0)),
		longGraph(impl.MaxEdges, 0, 1), longGraph(impl.MaxEdges, 13, 14), longGraph(impl.MaxEdges-1, 3, 13), longGraph(20, 5, 27),
	}
}

// drawnGraphs are right ones; what is drawn hangs on the seed alone.
func drawnGraphs(count int, seed uint32) []impl.Graph {
	draw := func(below int) int {
		seed = seed*1664525 + 1013904223
		return int(seed>>8) % below
	}
	out := []impl.Graph{}
	for range count {
		g := graph(1 + draw(impl.MaxVerts))
		for range draw(60) {
			if more, ok := edgeAddedByHand(g, edge(draw(g.Size), byte('a'+draw(4)), draw(g.Size))); ok {
				g = more
			}
		}
		out = append(out, g)
	}
	return out
}

// edgesAtEdges are edges that are right in a graph of this Size, and edges that are just not.
func edgesAtEdges(size int) []impl.Edge {
	out := []impl.Edge{}
	for _, from := range []int{math.MinInt, -1, 0, 1, size - 1, size, math.MaxInt} {
		for _, to := range []int{math.MinInt, -1, 0, 1, size - 1, size, math.MaxInt} {
			for _, label := range []byte{0, 'a' - 1, 'a', 'b', 'd', 'd' + 1, 255} {
				out = append(out, edge(from, label, to))
			}
		}
	}
	return out
}

func TestConstantsOfGraphs(t *testing.T) {
	if impl.MaxVerts != 12 || impl.MaxEdges != 40 {
		t.Error("a limit of the graphs is not the document's")
	}
}

func TestEdgeLess(t *testing.T) {
	ascending := []impl.Edge{}
	for _, from := range []int{math.MinInt, -1, 0, 1, 10, math.MaxInt} {
		for _, label := range []byte{0, 'a' - 1, 'a', 'd', 'd' + 1, 255} {
			for _, to := range []int{math.MinInt, -1, 0, 1, 10, math.MaxInt} {
				ascending = append(ascending, edge(from, label, to))
			}
		}
	}
	for i, a := range ascending {
		for j, b := range ascending {
			if less := impl.EdgeLess(a, b); less != (i < j) {
				t.Errorf("EdgeLess(%v, %v) = %v", a, b, less)
			}
		}
	}
	if !impl.EdgeLess(edge(0, 'd', 9), edge(1, 'a', 0)) || !impl.EdgeLess(edge(1, 'a', 9), edge(1, 'b', 0)) || !impl.EdgeLess(edge(1, 'a', 0), edge(1, 'a', 1)) || impl.EdgeLess(impl.Edge{}, impl.Edge{}) {
		t.Error("edges do not go by From, then Label, then To")
	}
}

func TestGraphOk(t *testing.T) {
	for _, g := range append(rightGraphs(), drawnGraphs(60, 1)...) {
		g := roomyGraph(g)
		before := wholeGraph(g)
		if !impl.GraphOk(g) {
			t.Errorf("GraphOk(%v) = false", g)
		}
		if wholeGraph(g) != before {
			t.Errorf("GraphOk(%v) wrote into what was given", g)
		}
	}
	for name, g := range wrongGraphs() {
		if impl.GraphOk(g) {
			t.Errorf("GraphOk of %s = true", name)
		}
	}
}

func TestGraphOkOfEachSizeAndCount(t *testing.T) {
	for size := -2; size <= impl.MaxVerts+2; size++ {
		if ok := impl.GraphOk(graph(size)); ok != (size >= 1 && size <= 12) {
			t.Errorf("GraphOk of a Size of %d = %v", size, ok)
		}
		for _, e := range edgesAtEdges(size) {
			if ok := impl.GraphOk(graph(size, e)); ok != rightGraph(graph(size, e)) {
				t.Errorf("GraphOk of a Size of %d and %v = %v", size, e, ok)
			}
		}
	}
	for count := range impl.MaxEdges + 3 {
		if ok := impl.GraphOk(longGraph(count, 0, 11)); ok != (count <= 40) {
			t.Errorf("GraphOk of %d edges = %v", count, ok)
		}
	}
	for label := range 256 {
		if ok := impl.GraphOk(graph(2, edge(0, byte(label), 1))); ok != (label >= 97 && label <= 100) {
			t.Errorf("GraphOk of a Label of %d = %v", label, ok)
		}
	}
}

func TestGraphOkAtEachPlace(t *testing.T) {
	for at := range 12 {
		for _, e := range append(edgesAtEdges(impl.MaxVerts), longGraph(570, 0, 1).Edges...) {
			g := longGraph(12, 50, 7)
			g.Edges[at] = e
			if ok := impl.GraphOk(g); ok != rightGraph(g) {
				t.Errorf("GraphOk(%v) = %v", g, ok)
			}
		}
	}
}

func TestGraphAddAtEachPlace(t *testing.T) {
	g := graph(4, edge(0, 'a', 1), edge(1, 'b', 0), edge(1, 'b', 2), edge(2, 'c', 3))
	for n := range 12 * 48 {
		checkEdgeAdd(t, g, countedEdge(n))
	}
	for _, c := range []struct {
		edge impl.Edge
		want impl.Graph
	}{
		{edge(0, 'a', 0), graph(4, edge(0, 'a', 0), edge(0, 'a', 1), edge(1, 'b', 0), edge(1, 'b', 2), edge(2, 'c', 3))},
		{edge(1, 'b', 1), graph(4, edge(0, 'a', 1), edge(1, 'b', 0), edge(1, 'b', 1), edge(1, 'b', 2), edge(2, 'c', 3))},
		{edge(1, 'a', 3), graph(4, edge(0, 'a', 1), edge(1, 'a', 3), edge(1, 'b', 0), edge(1, 'b', 2), edge(2, 'c', 3))},
		{edge(3, 'd', 3), graph(4, edge(0, 'a', 1), edge(1, 'b', 0), edge(1, 'b', 2), edge(2, 'c', 3), edge(3, 'd', 3))},
		{edge(0, 'a', 1), g}, {edge(1, 'b', 0), g}, {edge(2, 'c', 3), g},
	} {
		if got, ok := impl.GraphAdd(g, c.edge); !ok || !sameGraph(got, c.want) {
			t.Errorf("GraphAdd(%v, %v) = %v, %v; not %v", g, c.edge, got, ok, c.want)
		}
	}
}

func TestGraphAddOfEdgesThatDifferInOneThing(t *testing.T) {
	for _, e := range []impl.Edge{edge(0, 'b', 1), edge(2, 'b', 1), edge(1, 'a', 1), edge(1, 'c', 1), edge(1, 'b', 0), edge(1, 'b', 2)} {
		g := graph(3, edge(1, 'b', 1))
		checkEdgeAdd(t, g, e)
		if got, ok := impl.GraphAdd(g, e); !ok || len(got.Edges) != 2 || !slices.Contains(got.Edges, e) || !slices.Contains(got.Edges, edge(1, 'b', 1)) {
			t.Errorf("GraphAdd(%v, %v) = %v, %v", g, e, got, ok)
		}
	}
}

func TestGraphAddOfEachEdge(t *testing.T) {
	for _, g := range append(rightGraphs(), drawnGraphs(20, 2)...) {
		for _, e := range edgesAtEdges(g.Size) {
			checkEdgeAdd(t, g, e)
		}
		for _, e := range g.Edges {
			checkEdgeAdd(t, g, e)
			if got, ok := impl.GraphAdd(g, e); !ok || !sameGraph(got, g) {
				t.Errorf("GraphAdd(%v, %v), which is there = %v, %v", g, e, got, ok)
			}
		}
	}
	for _, e := range []impl.Edge{edge(3, 'a', 0), edge(-1, 'a', 0), edge(0, 'a', 3), edge(0, 'a', -1), edge(0, 'a'-1, 0), edge(0, 'd'+1, 0), edge(0, 0, 0)} {
		g := graph(3, edge(0, 'a', 1), edge(2, 'b', 0))
		if got, ok := impl.GraphAdd(g, e); ok || !sameGraph(got, g) {
			t.Errorf("GraphAdd(%v, %v) = %v, %v", g, e, got, ok)
		}
	}
}

func TestGraphAddAtTheMostEdges(t *testing.T) {
	full, nearly := longGraph(impl.MaxEdges, 10, 3), longGraph(impl.MaxEdges-1, 10, 3)
	for _, e := range full.Edges {
		checkEdgeAdd(t, full, e)
		if got, ok := impl.GraphAdd(full, e); !ok || !sameGraph(got, full) {
			t.Errorf("GraphAdd to a full graph of %v, which is there = %v, %v", e, got, ok)
		}
	}
	for _, n := range []int{0, 9, 11, 60, 575} {
		e := countedEdge(n)
		checkEdgeAdd(t, full, e)
		if got, ok := impl.GraphAdd(full, e); ok || !sameGraph(got, full) {
			t.Errorf("GraphAdd to a full graph of %v = %v, %v", e, got, ok)
		}
		checkEdgeAdd(t, nearly, e)
		if got, ok := impl.GraphAdd(nearly, e); !ok || len(got.Edges) != impl.MaxEdges || !slices.Contains(got.Edges, e) {
			t.Errorf("GraphAdd to a graph that is nearly full of %v = %v, %v", e, got, ok)
		}
	}
}

func TestGraphAddToAWrongGraph(t *testing.T) {
	for name, g := range wrongGraphs() {
		for _, e := range append(slices.Clone(g.Edges[:min(len(g.Edges), 3)]), edge(0, 'a', 0), edge(0, 'a', 1), edge(2, 'd', 2), edge(1, 'e', 0), edge(9, 'a', 9), edge(-1, 'a', 0)) {
			checkEdgeAdd(t, g, e)
			if got, ok := impl.GraphAdd(g, e); ok || !sameGraph(got, g) {
				t.Errorf("GraphAdd to a graph with %s of %v = %v, %v", name, e, got, ok)
			}
		}
	}
}

func TestGraphAddInWhateverOrder(t *testing.T) {
	for _, g := range append(rightGraphs(), drawnGraphs(60, 3)...) {
		// 43 is prime and above MaxEdges, so that its multiples come to each place once.
		up, down, mixed := graph(g.Size), graph(g.Size), graph(g.Size)
		for i := range g.Edges {
			for _, way := range []struct {
				graph *impl.Graph
				at    int
			}{{&up, i}, {&down, len(g.Edges) - 1 - i}, {&mixed, i * 43 % len(g.Edges)}} {
				more, ok := impl.GraphAdd(*way.graph, g.Edges[way.at])
				if !ok {
					t.Fatalf("GraphAdd(%v, %v) is refused", *way.graph, g.Edges[way.at])
				}
				*way.graph = more
			}
		}
		if !sameGraph(up, g) || !sameGraph(down, g) || !sameGraph(mixed, g) {
			t.Errorf("added one by one %v is %v, %v and %v", g, up, down, mixed)
		}
	}
}

func TestNextOf(t *testing.T) {
	g := graph(4, edge(0, 'a', 1), edge(0, 'a', 3), edge(0, 'b', 0), edge(1, 'a', 1), edge(1, 'd', 0), edge(1, 'd', 1), edge(1, 'd', 2), edge(1, 'd', 3), edge(3, 'c', 0))
	for _, c := range []struct {
		from  int
		label byte
		want  []int
	}{
		{0, 'a', []int{1, 3}}, {0, 'b', []int{0}}, {0, 'c', nil}, {0, 'd', nil}, {1, 'a', []int{1}}, {1, 'b', nil}, {1, 'd', []int{0, 1, 2, 3}},
		{2, 'a', nil}, {2, 'd', nil}, {3, 'c', []int{0}}, {3, 'b', nil}, {4, 'a', nil}, {-1, 'a', nil}, {math.MaxInt, 'a', nil}, {math.MinInt, 'd', nil},
		{0, 'a' - 1, nil}, {1, 'd' + 1, nil}, {0, 0, nil}, {0, 'A', nil}, {1, 255, nil},
	} {
		if got := impl.NextOf(g, c.from, c.label); !slices.Equal(got, c.want) {
			t.Errorf("NextOf(%v, %d, %q) = %v; not %v", g, c.from, c.label, got, c.want)
		}
	}
}

func TestNextOfEachVertexAndLabel(t *testing.T) {
	graphs := append(rightGraphs(), drawnGraphs(20, 4)...)
	for _, g := range wrongGraphs() {
		graphs = append(graphs, g)
	}
	for _, g := range graphs {
		for _, from := range []int{math.MinInt, -1, 0, 1, 2, 3, 5, 11, 12, math.MaxInt} {
			for _, label := range []byte{0, 'A', 'a' - 1, 'a', 'b', 'c', 'd', 'd' + 1, 255} {
				checkNext(t, g, from, label)
			}
		}
	}
}

func TestNextOfAWrongGraph(t *testing.T) {
	for _, c := range []struct {
		graph impl.Graph
		from  int
		label byte
		want  []int
	}{
		{graph(3, edge(0, 'a', 1), edge(0, 'a', 1)), 0, 'a', []int{1}},
		{graph(3, edge(0, 'a', 2), edge(0, 'a', 0), edge(0, 'a', 1)), 0, 'a', []int{0, 1, 2}},
		{graph(3, edge(0, 'a', 2), edge(1, 'b', 0), edge(0, 'a', 1), edge(0, 'a', 2), edge(0, 'b', 2), edge(0, 'a', 1)), 0, 'a', []int{1, 2}},
		{graph(0, edge(7, 'z', 20), edge(7, 'z', -5)), 7, 'z', []int{-5, 20}},
		{graph(-3, edge(-1, 0, math.MaxInt), edge(-1, 0, math.MinInt), edge(-1, 0, math.MaxInt)), -1, 0, []int{math.MinInt, math.MaxInt}},
		{graph(20, edge(15, 'a', 16), edge(15, 'a', 3)), 15, 'a', []int{3, 16}},
		{impl.Graph{}, 0, 0, nil}, {graph(0, impl.Edge{}), 0, 0, []int{0}},
	} {
		checkNext(t, c.graph, c.from, c.label)
		if got := impl.NextOf(c.graph, c.from, c.label); !slices.Equal(got, c.want) {
			t.Errorf("NextOf(%v, %d, %q) = %v; not %v", c.graph, c.from, c.label, got, c.want)
		}
	}
	long := graph(impl.MaxVerts)
	for i := range 1000 {
		long.Edges = append(long.Edges, edge(5, 'b', 999-i), edge(5, 'b', i), edge(i, 'a', 5))
	}
	if got := impl.NextOf(long, 5, 'b'); len(got) != 1000 || got[0] != 0 || got[999] != 999 || !slices.IsSorted(got) {
		t.Errorf("NextOf of 2000 edges, each twice = %d numbers", len(got))
	}
}

func TestTurned(t *testing.T) {
	for _, c := range []struct{ graph, want impl.Graph }{
		{graph(1), graph(1)}, {graph(12), graph(12)}, {graph(2, edge(0, 'a', 1)), graph(2, edge(1, 'a', 0))}, {graph(3, edge(1, 'b', 1)), graph(3, edge(1, 'b', 1))},
		{graph(3, edge(0, 'a', 1), edge(1, 'a', 2), edge(2, 'b', 0)), graph(3, edge(0, 'b', 2), edge(1, 'a', 0), edge(2, 'a', 1))},
		{graph(3, edge(0, 'd', 1), edge(1, 'a', 1), edge(2, 'c', 1)), graph(3, edge(1, 'a', 1), edge(1, 'c', 2), edge(1, 'd', 0))},
		{graph(2, edge(0, 'a', 1), edge(1, 'a', 0)), graph(2, edge(0, 'a', 1), edge(1, 'a', 0))},
	} {
		checkTurned(t, c.graph)
		if got := impl.Turned(c.graph); !sameGraph(got, c.want) {
			t.Errorf("Turned(%v) = %v; not %v", c.graph, got, c.want)
		}
	}
}

func TestTurnedTwiceIsTheSame(t *testing.T) {
	for _, g := range append(rightGraphs(), drawnGraphs(200, 5)...) {
		checkTurned(t, g)
		turned := impl.Turned(g)
		if !impl.GraphOk(turned) {
			t.Errorf("Turned(%v) = %v, which is not right", g, turned)
		}
		for from := range g.Size {
			for _, label := range []byte("abcd") {
				for to := range g.Size {
					forth, back := slices.Contains(impl.NextOf(g, from, label), to), slices.Contains(impl.NextOf(turned, to, label), from)
					if forth != back {
						t.Fatalf("%v leads from %d by %q to %d: %v; turned it leads back: %v", g, from, label, to, forth, back)
					}
				}
			}
		}
	}
}

func TestTurnedOfAWrongGraph(t *testing.T) {
	for name, g := range wrongGraphs() {
		checkTurned(t, g)
		if got := impl.Turned(g); !sameGraph(got, g) {
			t.Errorf("Turned of a graph with %s = %v; not %v", name, got, g)
		}
	}
}

func TestGraphTexts(t *testing.T) {
	checkGraphText(t, graph(1), "\x01\x00")
	checkGraphText(t, graph(12), "\x0c\x00")
	checkGraphText(t, graph(1, edge(0, 'a', 0)), "\x01\x01\x00a\x00")
	checkGraphText(t, graph(3, edge(0, 'a', 1), edge(1, 'a', 2), edge(2, 'b', 0)), "\x03\x03\x00a\x01\x01a\x02\x02b\x00")
	checkGraphText(t, graph(12, edge(0, 'd', 11), edge(11, 'c', 0)), "\x0c\x02\x00d\x0b\x0bc\x00")
	for _, g := range append(rightGraphs(), drawnGraphs(200, 6)...) {
		checkGraphText(t, g, graphTextByHand(g))
		checkGraphText(t, impl.Turned(g), graphTextByHand(turnedByHand(g)))
	}
	if s, ok := impl.GraphText(longGraph(impl.MaxEdges, 0, 1)); !ok || len(s) != 2+40*3 || s[:8] != "\x0c\x28\x00a\x00\x00a\x01" {
		t.Errorf("GraphText of %d edges = %q, %v", impl.MaxEdges, s, ok)
	}
}

func TestGraphTextOfWrongGraphs(t *testing.T) {
	for name, g := range wrongGraphs() {
		given := roomyGraph(g)
		before := wholeGraph(given)
		if s, ok := impl.GraphText(given); s != "" || ok {
			t.Errorf("GraphText of a graph with %s = %q, %v", name, s, ok)
		}
		if wholeGraph(given) != before {
			t.Errorf("GraphText of a graph with %s wrote into what was given", name)
		}
		told := g.Size >= 0 && g.Size <= impl.MaxNumber
		for _, e := range g.Edges {
			told = told && min(e.From, e.To) >= 0 && max(e.From, e.To) <= impl.MaxNumber
		}
		if told {
			checkNoGraph(t, "a graph with "+name, graphTextByHand(g))
		}
	}
}

func TestReadGraphOfSpoiltTexts(t *testing.T) {
	for _, g := range append(rightGraphs(), drawnGraphs(10, 7)...) {
		text := graphTextByHand(g)
		for at := range len(text) {
			checkNoGraph(t, "a beginning", text[:at])
			checkGraphAsTold(t, text[:at]+text[at+1:])
			checkGraphAsTold(t, text[at:])
		}
		for at := range len(text) + 1 {
			for n := range 256 {
				one := string([]byte{byte(n)})
				checkGraphAsTold(t, text[:at]+one+text[at:])
				if at < len(text) {
					checkGraphAsTold(t, text[:at]+one+text[at+1:])
				}
			}
		}
		for _, more := range []string{"\x00", "\x01", "a", "\x80", "\x00a\x00", text} {
			checkNoGraph(t, "one with more behind it", text+more)
		}
	}
	checkNoGraph(t, "nothing", "")
}

func TestReadGraphOfWrongTexts(t *testing.T) {
	for name, text := range map[string]string{
		"a Size of 0":                    "\x00\x00",
		"a Size of 13":                   "\x0d\x00",
		"a Size of 128":                  "\x80\x01\x00",
		"a Size of MaxNumber":            "\x80\x94\xeb\xdc\x03\x00",
		"a Size above MaxNumber":         "\xff\xff\xff\xff\x7f\x00",
		"a Size in a longer form":        "\x83\x00\x00",
		"a count in a longer form":       "\x03\x80\x00",
		"a count of one, longer":         "\x03\x81\x00\x00a\x01",
		"a From in a longer form":        "\x03\x01\x80\x00a\x01",
		"a From of 1, longer":            "\x03\x01\x81\x00a\x01",
		"a To in a longer form":          "\x03\x01\x00a\x81\x00",
		"a To of 0, longer":              "\x03\x01\x00a\x80\x00",
		"a Label in a longer form":       "\x03\x01\x00\xe1\x00\x01",
		"a Label a, longer":              "\x03\x01\x00\xe1\x01",
		"edges out of order":             "\x03\x02\x01a\x00\x00a\x00",
		"Labels out of order":            "\x03\x02\x00b\x00\x00a\x00",
		"To out of order":                "\x03\x02\x00a\x02\x00a\x01",
		"an edge twice":                  "\x03\x02\x00a\x01\x00a\x01",
		"an edge twice, apart":           "\x03\x03\x00a\x01\x00a\x02\x00a\x01",
		"a From of Size":                 "\x03\x01\x03a\x00",
		"a To of Size":                   "\x03\x01\x00a\x03",
		"a From of 12":                   "\x0c\x01\x0ca\x00",
		"a To of 12":                     "\x0c\x01\x00a\x0c",
		"a To of 13":                     "\x0c\x01\x00a\x0d",
		"a great From":                   "\x03\x01\x80\x94\xeb\xdc\x03a\x00",
		"a Label ahead of a":             "\x03\x01\x00`\x01",
		"a Label behind d":               "\x03\x01\x00e\x01",
		"an edge too few":                "\x03\x02\x00a\x01",
		"an edge too many":               "\x03\x01\x00a\x01\x00a\x02",
		"an edge, and a count of 0":      "\x03\x00\x00a\x01",
		"no To":                          "\x03\x01\x00a",
		"no Label":                       "\x03\x01\x00",
		"no From":                        "\x03\x01",
		"no count":                       "\x03",
		"a number that does not end":     "\x03\x01\x00a\x80",
		"a count that does not end":      "\x03\x80",
		"a count of 41 and no edge":      "\x0c\x29",
		"a count of MaxNumber":           "\x0c\x80\x94\xeb\xdc\x03",
		"a count above MaxNumber":        "\x0c\xff\xff\xff\xff\x7f",
		"a byte behind one of no edges":  "\x01\x00\x00",
		"a byte ahead of one of no edge": "\x00\x01\x00",
		"41 edges":                       graphTextByHand(longGraph(41, 0, 1)),
		"300 edges":                      graphTextByHand(longGraph(300, 0, 1)),
		"41 edges, said to be 40":        "\x0c\x28" + graphTextByHand(longGraph(41, 0, 1))[2:],
		"39 edges, said to be 40":        "\x0c\x28" + graphTextByHand(longGraph(39, 0, 1))[2:],
		"40 edges, said to be 41":        "\x0c\x29" + graphTextByHand(longGraph(40, 0, 1))[2:],
	} {
		checkNoGraph(t, name, text)
	}
}

func TestGraphsOfShortTexts(t *testing.T) {
	some := []byte{0, 1, 2, 11, 12, 13, 'a' - 1, 'a', 'b', 'd', 'd' + 1, 128, 255}
	texts := []string{""}
	for range 6 {
		longer := []string{}
		for _, text := range texts {
			checkGraphAsTold(t, text)
			if len(text) == 5 {
				continue
			}
			for _, b := range some {
				longer = append(longer, text+string([]byte{b}))
			}
		}
		texts = longer
	}
}
