package tests

import (
	"fmt"
	"math"
	"slices"
	"testing"

	"loop.example/g00250/impl"
)

var (
	someCounts  = []int{math.MinInt, -8, -1, 0, 1, 2, 3, 4, 5, 6, 7, 8, 9, 10, 16, math.MaxInt}
	someWorkers = []int{math.MinInt, -7, -1, 0, 1, 2, 3, 4, 5, 6, 7, 8, 9, 11, 12, math.MaxInt}
	noCounts    = []int{math.MinInt, -8, -2, -1, 0, impl.MaxWorkers + 1, impl.MaxWorkers + 2, 12, 16, math.MaxInt}
	noVertices  = []int{math.MinInt, -128, -12, -1, impl.MaxVerts, impl.MaxVerts + 1, 127, 128, impl.MaxNumber, impl.MaxNumber + 1, math.MaxInt}
)

// ownerByHand is the chapter's sentence, with the sum taken bit by bit.
func ownerByHand(v, n int) int {
	if n < 1 || n > 8 || v < 0 || v > 11 {
		return 0
	}
	return int(uint64(sumBitByBit(4294967295, varByHand(v))) % uint64(n))
}

func ownedByHand(g impl.Graph, worker, n int) []int {
	out := []int{}
	for v := 0; rightGraph(g) && v < g.Size; v++ {
		if ownerByHand(v, n) == worker {
			out = append(out, v)
		}
	}
	return out
}

// partByHand throws out what another one owns.
func partByHand(g impl.Graph, worker, n int) impl.Graph {
	if !rightGraph(g) {
		return graph(g.Size)
	}
	return graph(g.Size, slices.DeleteFunc(slices.Clone(g.Edges), func(e impl.Edge) bool { return ownerByHand(e.From, n) != worker })...)
}

// togetherByHand goes through all edges that there may be, in order, and keeps those that one of the graphs has.
func togetherByHand(list []impl.Graph) (impl.Graph, bool) {
	if len(list) == 0 {
		return impl.Graph{}, false
	}
	for _, g := range list {
		if !rightGraph(g) || g.Size != list[0].Size {
			return impl.Graph{}, false
		}
	}
	out := graph(list[0].Size)
	for n := range 12 * 48 {
		if slices.ContainsFunc(list, func(g impl.Graph) bool { return slices.Contains(g.Edges, countedEdge(n)) }) {
			out.Edges = append(out.Edges, countedEdge(n))
		}
	}
	if !rightGraph(out) {
		return impl.Graph{}, false
	}
	return out, true
}

// roomyList has spare room behind the list, with right graphs of their own in it, and behind the edges of each graph.
func roomyList(list []impl.Graph) []impl.Graph {
	out := make([]impl.Graph, 0, len(list)+2)
	for _, g := range list {
		out = append(out, roomyGraph(g))
	}
	spare := out[len(out):cap(out)]
	for i := range spare {
		spare[i] = roomyGraph(graph(3+i, edge(1, 'b', i)))
	}
	return out
}

func wholeList(list []impl.Graph) string {
	out := fmt.Sprintf("%p %d", list, len(list))
	for _, g := range list[:cap(list)] {
		out += "; " + wholeGraph(g)
	}
	return out
}

func spansOfList(list []impl.Graph) []span {
	out := []span{}
	for _, g := range list[:cap(list)] {
		out = append(out, spansOfGraph(g)...)
	}
	return out
}

// checkOwned also asks that nothing is written into what is given, and that the answer is new memory.
func checkOwned(t *testing.T, g impl.Graph, worker, n int) {
	t.Helper()
	name := fmt.Sprintf("Owned(%v, %d, %d)", g, worker, n)
	want := ownedByHand(g, worker, n)
	g = roomyGraph(g)
	before := wholeGraph(g)
	got := impl.Owned(g, worker, n)
	if !slices.Equal(got, want) {
		t.Errorf("%s = %v; not %v", name, got, want)
	}
	if wholeGraph(g) != before {
		t.Errorf("%s wrote into what was given", name)
	}
	again := impl.Owned(g, worker, n)
	checkApart(t, name, []span{spanOfRow(got), spanOfRow(again)}, spansOfGraph(g))
}

func checkPart(t *testing.T, g impl.Graph, worker, n int) {
	t.Helper()
	name := fmt.Sprintf("PartOf(%v, %d, %d)", g, worker, n)
	want := partByHand(g, worker, n)
	g = roomyGraph(g)
	before := wholeGraph(g)
	got := impl.PartOf(g, worker, n)
	if !sameGraph(got, want) {
		t.Errorf("%s = %v; not %v", name, got, want)
	}
	if wholeGraph(g) != before {
		t.Errorf("%s wrote into what was given", name)
	}
	again := impl.PartOf(g, worker, n)
	checkApart(t, name, append(spansOfGraph(got), spansOfGraph(again)...), spansOfGraph(g))
}

func checkTogether(t *testing.T, list []impl.Graph) {
	t.Helper()
	name := fmt.Sprintf("Together(%v)", list)
	want, right := togetherByHand(list)
	list = roomyList(list)
	before := wholeList(list)
	got, ok := impl.Together(list)
	if ok != right || !sameGraph(got, want) {
		t.Errorf("%s = %v, %v; not %v, %v", name, got, ok, want, right)
	}
	if wholeList(list) != before {
		t.Errorf("%s wrote into what was given", name)
	}
	again, _ := impl.Together(list)
	checkApart(t, name, append(spansOfGraph(got), spansOfGraph(again)...), spansOfList(list))
}

// checkMakes asks that these graphs, in each of some orders, make this one.
func checkMakes(t *testing.T, want impl.Graph, list ...impl.Graph) {
	t.Helper()
	for _, order := range someOrders(list) {
		checkTogether(t, order)
		if got, ok := impl.Together(order); !ok || !sameGraph(got, want) {
			t.Errorf("Together(%v) = %v, %v; not %v", order, got, ok, want)
		}
	}
}

// checkMakesNone asks that these graphs are refused in each of some orders.
func checkMakesNone(t *testing.T, name string, list ...impl.Graph) {
	t.Helper()
	for _, order := range someOrders(list) {
		checkTogether(t, order)
		if got, ok := impl.Together(order); ok || !sameGraph(got, impl.Graph{}) {
			t.Errorf("Together of %s, %v = %v, %v; not refused", name, order, got, ok)
		}
	}
}

// someOrders begins with each of the list in turn, forwards and backwards.
func someOrders(list []impl.Graph) [][]impl.Graph {
	out := [][]impl.Graph{list}
	for at := range list {
		forth := slices.Concat(list[at:], list[:at])
		back := slices.Clone(forth)
		slices.Reverse(back)
		out = append(out, forth, back)
	}
	return out
}

func partsOf(g impl.Graph, n int) []impl.Graph {
	out := []impl.Graph{}
	for worker := range n {
		out = append(out, impl.PartOf(g, worker, n))
	}
	return out
}

// graphsOfEachSize have an edge from each vertex.
func graphsOfEachSize() []impl.Graph {
	out := []impl.Graph{}
	for size := 1; size <= impl.MaxVerts; size++ {
		g := graph(size)
		for v := range size {
			g.Edges = append(g.Edges, edge(v, 'b', size-1-v))
		}
		out = append(out, g)
	}
	return out
}

func graphsToShare(count int, seed uint32) []impl.Graph {
	return slices.Concat(rightGraphs(), graphsOfEachSize(), drawnGraphs(count, seed))
}

func TestConstantsOfShares(t *testing.T) {
	if impl.MaxWorkers != 8 {
		t.Error("a limit of the shares is not the document's")
	}
}

func TestOwnersThatAreKnown(t *testing.T) {
	for i, owners := range [][]int{
		{0, 0, 0, 0, 0, 0, 0, 0, 0, 0, 0, 0},
		{0, 1, 0, 1, 0, 1, 0, 1, 1, 0, 1, 0},
		{2, 1, 2, 2, 2, 2, 0, 2, 0, 0, 0, 2},
		{0, 3, 2, 1, 0, 3, 2, 1, 3, 0, 1, 2},
		{3, 0, 3, 4, 4, 1, 0, 2, 3, 2, 4, 3},
		{2, 1, 2, 5, 2, 5, 0, 5, 3, 0, 3, 2},
		{5, 5, 3, 2, 1, 1, 0, 5, 0, 1, 1, 3},
		{4, 3, 2, 5, 0, 7, 6, 1, 7, 0, 1, 6},
	} {
		for v, want := range owners {
			if got := impl.OwnerOf(v, i+1); got != want {
				t.Errorf("OwnerOf(%d, %d) = %d; not %d", v, i+1, got, want)
			}
		}
	}
}

func TestOwnerIsTheSumModuloN(t *testing.T) {
	for n := -3; n <= impl.MaxWorkers+3; n++ {
		for v := -3; v <= impl.MaxVerts+3; v++ {
			if got, want := impl.OwnerOf(v, n), ownerByHand(v, n); got != want {
				t.Errorf("OwnerOf(%d, %d) = %d; not %d", v, n, got, want)
			}
			text, ok := impl.VarText(v)
			inside := n >= 1 && n <= impl.MaxWorkers && v >= 0 && v < impl.MaxVerts
			if got := impl.OwnerOf(v, n); inside && (!ok || got != int(impl.SumOf(text))%n || got < 0 || got >= n) {
				t.Errorf("OwnerOf(%d, %d) = %d, which is not the sum modulo %d", v, n, got, n)
			}
		}
	}
}

func TestOwnerOfWhatIsNotThereIsNought(t *testing.T) {
	for _, n := range noCounts {
		for v := range impl.MaxVerts {
			if got := impl.OwnerOf(v, n); got != 0 {
				t.Errorf("OwnerOf(%d, %d) = %d; not 0", v, n, got)
			}
		}
	}
	for _, v := range noVertices {
		for _, n := range someCounts {
			if got := impl.OwnerOf(v, n); got != 0 {
				t.Errorf("OwnerOf(%d, %d) = %d; not 0", v, n, got)
			}
		}
	}
}

func TestOwnedThatIsKnown(t *testing.T) {
	all := []int{0, 1, 2, 3, 4, 5, 6, 7, 8, 9, 10, 11}
	for _, c := range []struct {
		size, worker, n int
		want            []int
	}{
		{12, 0, 1, all}, {12, 0, 2, []int{0, 2, 4, 6, 9, 11}}, {12, 1, 2, []int{1, 3, 5, 7, 8, 10}}, {12, 1, 3, []int{1}}, {12, 2, 3, []int{0, 2, 3, 4, 5, 7, 11}},
		{12, 7, 8, []int{5, 8}}, {12, 4, 8, []int{0}}, {12, 8, 8, nil}, {12, -1, 8, nil}, {6, 7, 8, []int{5}}, {5, 7, 8, nil}, {8, 7, 8, []int{5}}, {9, 7, 8, []int{5, 8}},
		{1, 0, 1, []int{0}}, {1, 0, 2, []int{0}}, {1, 1, 2, nil}, {1, 2, 3, []int{0}}, {1, 0, 3, nil}, {1, 4, 8, []int{0}}, {3, 0, 2, []int{0, 2}}, {3, 1, 2, []int{1}},
	} {
		if got := impl.Owned(graph(c.size), c.worker, c.n); !slices.Equal(got, c.want) {
			t.Errorf("Owned of %d vertices, %d, %d = %v; not %v", c.size, c.worker, c.n, got, c.want)
		}
	}
}

func TestOwnedOfEachWorker(t *testing.T) {
	for _, g := range graphsToShare(10, 11) {
		for _, n := range someCounts {
			for _, worker := range someWorkers {
				checkOwned(t, g, worker, n)
			}
		}
	}
}

func TestOwnedDoesNotHangOnEdges(t *testing.T) {
	for n := 1; n <= impl.MaxWorkers; n++ {
		for worker := range n {
			with, without := impl.Owned(longGraph(impl.MaxEdges, 0, 1), worker, n), impl.Owned(graph(impl.MaxVerts), worker, n)
			if !slices.Equal(with, without) {
				t.Errorf("worker %d of %d owns %v with edges, and %v without", worker, n, with, without)
			}
		}
	}
}

func TestEachVertexIsOnes(t *testing.T) {
	for _, g := range graphsToShare(10, 12) {
		for n := 1; n <= impl.MaxWorkers; n++ {
			owners := make([]int, g.Size)
			for worker := -2; worker <= n+2; worker++ {
				owned := impl.Owned(g, worker, n)
				if (worker < 0 || worker >= n) && len(owned) != 0 {
					t.Errorf("Owned(%v, %d, %d) = %v, though there is no such worker", g, worker, n, owned)
				}
				for _, v := range owned {
					owners[v]++
				}
			}
			if slices.ContainsFunc(owners, func(count int) bool { return count != 1 }) {
				t.Errorf("the vertices of %v are owned by so many of %d workers: %v", g, n, owners)
			}
		}
	}
}

func TestWorkersWithoutAVertex(t *testing.T) {
	g := longGraph(impl.MaxEdges, 0, 14)
	for _, c := range []struct{ worker, n int }{{4, 6}, {4, 7}, {6, 7}} {
		if owned := impl.Owned(g, c.worker, c.n); len(owned) != 0 {
			t.Errorf("worker %d of %d owns %v", c.worker, c.n, owned)
		}
		checkPart(t, g, c.worker, c.n)
		part := impl.PartOf(g, c.worker, c.n)
		if !sameGraph(part, graph(impl.MaxVerts)) || !impl.GraphOk(part) {
			t.Errorf("the part of worker %d of %d, who owns no vertex, is %v", c.worker, c.n, part)
		}
	}
	// One vertex alone leaves all workers but one without any.
	one := graph(1, edge(0, 'a', 0), edge(0, 'c', 0))
	for n := 1; n <= impl.MaxWorkers; n++ {
		for worker := range n {
			want := graph(1)
			if worker == ownerByHand(0, n) {
				want = one
			}
			if part := impl.PartOf(one, worker, n); !sameGraph(part, want) {
				t.Errorf("PartOf(%v, %d, %d) = %v; not %v", one, worker, n, part, want)
			}
		}
		checkMakes(t, one, partsOf(one, n)...)
	}
}

func TestWorkersThatThereAreNot(t *testing.T) {
	g := longGraph(impl.MaxEdges, 0, 14)
	for n := 1; n <= impl.MaxWorkers; n++ {
		for _, worker := range []int{math.MinInt, -n, -1, n, n + 1, 2 * n, impl.MaxVerts + n, math.MaxInt} {
			if owned := impl.Owned(g, worker, n); len(owned) != 0 {
				t.Errorf("Owned of worker %d of %d = %v", worker, n, owned)
			}
			if part := impl.PartOf(g, worker, n); !sameGraph(part, graph(impl.MaxVerts)) {
				t.Errorf("PartOf of worker %d of %d = %v", worker, n, part)
			}
		}
	}
}

// With a count of workers that is none OwnerOf is 0 of each vertex, so that all are 0's.
func TestAllIsOfWorkerNoughtWithAWrongCount(t *testing.T) {
	for _, g := range graphsToShare(5, 13) {
		for _, n := range noCounts {
			if owned := impl.Owned(g, 0, n); len(owned) != g.Size || !slices.IsSorted(owned) {
				t.Errorf("Owned(%v, 0, %d) = %v", g, n, owned)
			}
			if part := impl.PartOf(g, 0, n); !sameGraph(part, g) {
				t.Errorf("PartOf(%v, 0, %d) = %v", g, n, part)
			}
			for _, worker := range []int{math.MinInt, -1, 1, 2, n, math.MaxInt} {
				owned, part := impl.Owned(g, worker, n), impl.PartOf(g, worker, n)
				if worker != 0 && (len(owned) != 0 || !sameGraph(part, graph(g.Size))) {
					t.Errorf("worker %d of %d owns %v of %v, and its part is %v", worker, n, owned, g, part)
				}
			}
		}
	}
}

func TestPartsThatAreKnown(t *testing.T) {
	g := graph(3, edge(0, 'a', 1), edge(1, 'a', 2), edge(2, 'b', 0))
	wide := graph(6, edge(0, 'a', 5), edge(0, 'b', 0), edge(1, 'c', 0), edge(3, 'a', 0), edge(3, 'd', 3), edge(5, 'a', 1), edge(5, 'a', 2))
	for _, c := range []struct {
		graph     impl.Graph
		worker, n int
		want      impl.Graph
	}{
		{g, 0, 1, g}, {g, 1, 1, graph(3)}, {g, 0, 2, graph(3, edge(0, 'a', 1), edge(2, 'b', 0))}, {g, 1, 2, graph(3, edge(1, 'a', 2))}, {g, 2, 2, graph(3)}, {g, -1, 2, graph(3)},
		{g, 0, 4, graph(3, edge(0, 'a', 1))}, {g, 1, 4, graph(3)}, {g, 2, 4, graph(3, edge(2, 'b', 0))}, {g, 3, 4, graph(3, edge(1, 'a', 2))},
		{wide, 3, 4, graph(6, edge(1, 'c', 0), edge(5, 'a', 1), edge(5, 'a', 2))}, {wide, 1, 4, graph(6, edge(3, 'a', 0), edge(3, 'd', 3))},
		{wide, 2, 4, graph(6)}, {wide, 0, 4, graph(6, edge(0, 'a', 5), edge(0, 'b', 0))}, {wide, 4, 8, graph(6, edge(0, 'a', 5), edge(0, 'b', 0))},
	} {
		checkPart(t, c.graph, c.worker, c.n)
		if got := impl.PartOf(c.graph, c.worker, c.n); !sameGraph(got, c.want) {
			t.Errorf("PartOf(%v, %d, %d) = %v; not %v", c.graph, c.worker, c.n, got, c.want)
		}
	}
}

func TestPartOfEachWorker(t *testing.T) {
	for _, g := range graphsToShare(20, 14) {
		for _, n := range someCounts {
			for _, worker := range someWorkers {
				checkPart(t, g, worker, n)
			}
		}
	}
}

func TestOwnedAndPartOfAWrongGraph(t *testing.T) {
	for name, g := range wrongGraphs() {
		for _, n := range someCounts {
			for _, worker := range someWorkers {
				checkOwned(t, g, worker, n)
				checkPart(t, g, worker, n)
				if owned := impl.Owned(g, worker, n); len(owned) != 0 {
					t.Errorf("Owned of a graph with %s, %d, %d = %v", name, worker, n, owned)
				}
				if part := impl.PartOf(g, worker, n); !sameGraph(part, graph(g.Size)) {
					t.Errorf("PartOf a graph with %s, %d, %d = %v", name, worker, n, part)
				}
			}
		}
	}
}

func TestAllPartsTogetherAreTheGraph(t *testing.T) {
	for _, g := range graphsToShare(60, 15) {
		for n := 1; n <= impl.MaxWorkers; n++ {
			parts := partsOf(g, n)
			edges := 0
			for worker, part := range parts {
				if !impl.GraphOk(part) {
					t.Errorf("PartOf(%v, %d, %d) = %v, which is not right", g, worker, n, part)
				}
				edges += len(part.Edges)
			}
			if edges != len(g.Edges) {
				t.Errorf("the parts of %v, of %d workers, have %d edges in all", g, n, edges)
			}
			checkMakes(t, g, parts...)
		}
	}
}

func TestAPartMissingIsNotTheGraph(t *testing.T) {
	for _, g := range graphsOfEachSize()[1:] {
		for n := 2; n <= impl.MaxWorkers; n++ {
			for worker := range n {
				some := slices.Delete(partsOf(g, n), worker, worker+1)
				want := graph(g.Size, slices.DeleteFunc(slices.Clone(g.Edges), func(e impl.Edge) bool { return ownerByHand(e.From, n) == worker })...)
				checkMakes(t, want, some...)
			}
		}
	}
}

func TestTogetherOfKnownGraphs(t *testing.T) {
	a, b, c := edge(0, 'a', 1), edge(1, 'a', 2), edge(2, 'b', 0)
	checkMakes(t, graph(3, a, b, c), graph(3, a, c), graph(3, b))
	checkMakes(t, graph(3, a, b, c), graph(3, a), graph(3, b), graph(3, c))
	checkMakes(t, graph(3, a, b, c), graph(3, a, b, c), graph(3), graph(3))
	checkMakes(t, graph(3), graph(3), graph(3))
	checkMakes(t, graph(1, edge(0, 'a', 0), edge(0, 'd', 0)), graph(1, edge(0, 'd', 0)), graph(1), graph(1, edge(0, 'a', 0)))
	checkMakes(t, graph(3, edge(1, 'b', 0), edge(1, 'b', 1), edge(1, 'b', 2)), graph(3, edge(1, 'b', 1)), graph(3, edge(1, 'b', 0), edge(1, 'b', 2)))
}

func TestTogetherOfNoGraph(t *testing.T) {
	for _, list := range [][]impl.Graph{nil, {}} {
		checkTogether(t, list)
		if got, ok := impl.Together(list); ok || !sameGraph(got, impl.Graph{}) {
			t.Errorf("Together of no graph = %v, %v", got, ok)
		}
	}
}

func TestTogetherOfOneGraph(t *testing.T) {
	for _, g := range graphsToShare(20, 16) {
		checkMakes(t, g, g)
	}
	for name, g := range wrongGraphs() {
		checkMakesNone(t, "one with "+name, g)
	}
}

func TestTogetherOfAWrongGraph(t *testing.T) {
	for name, g := range wrongGraphs() {
		// Of the wrong one's own Size, where there is such a right one, so that nothing else is wrong.
		size := min(max(g.Size, 1), impl.MaxVerts)
		right := graph(size, edge(0, 'c', 0))
		checkMakesNone(t, "one with "+name, g, graph(size))
		checkMakesNone(t, "one with "+name, g, right, graph(size))
		checkMakesNone(t, "two with "+name, g, right, g)
	}
}

func TestTogetherOfAnotherSize(t *testing.T) {
	for a := 1; a <= impl.MaxVerts; a++ {
		for b := 1; b <= impl.MaxVerts; b++ {
			if a == b {
				checkMakes(t, graph(a), graph(a), graph(b))
				continue
			}
			checkMakesNone(t, "two Sizes", graph(a), graph(b))
			checkMakesNone(t, "two Sizes", graph(a, edge(0, 'a', 0)), graph(b, edge(0, 'b', 0)), graph(a))
		}
	}
}

// An edge that two of them have is told once: all edges of both are just that many.
func TestTogetherOfAnEdgeInCommon(t *testing.T) {
	a, b, c := edge(0, 'a', 1), edge(1, 'a', 2), edge(2, 'b', 0)
	checkMakes(t, graph(3, a, b), graph(3, a), graph(3, a, b))
	checkMakes(t, graph(3, a, b, c), graph(3, a, b), graph(3, b, c))
	checkMakes(t, graph(3, a, b, c), graph(3, a, c), graph(3, b, c), graph(3, a, b, c))
	checkMakes(t, graph(3, b), graph(3, b), graph(3, b), graph(3, b), graph(3))
	for _, g := range graphsToShare(20, 17) {
		checkMakes(t, g, g, g)
		checkMakes(t, g, append(partsOf(g, 3), partsOf(g, 5)...)...)
	}
	// Edges that are alike but in one thing are none in common.
	for _, e := range []impl.Edge{edge(0, 'b', 1), edge(2, 'b', 1), edge(1, 'a', 1), edge(1, 'c', 1), edge(1, 'b', 0), edge(1, 'b', 2)} {
		if got, ok := impl.Together([]impl.Graph{graph(3, edge(1, 'b', 1)), graph(3, e)}); !ok || len(got.Edges) != 2 {
			t.Errorf("Together of 1 b 1 and %v = %v, %v", e, got, ok)
		}
	}
}

func TestTogetherAtTheMostEdges(t *testing.T) {
	full := longGraph(impl.MaxEdges, 0, 3)
	for at := range impl.MaxEdges + 1 {
		one, other := graph(impl.MaxVerts, full.Edges[:at]...), graph(impl.MaxVerts, full.Edges[at:]...)
		checkMakes(t, full, one, other)
		checkMakesNone(t, "one edge too many", one, other, graph(impl.MaxVerts, countedEdge(3*at+1)))
	}
	checkMakesNone(t, "one edge too many", longGraph(20, 0, 2), longGraph(21, 1, 2))
	checkMakesNone(t, "twice the most edges", longGraph(impl.MaxEdges, 0, 2), longGraph(impl.MaxEdges, 1, 2))
	// 20 and 25 of which 5 are in common, then 4 of them.
	checkMakes(t, longGraph(40, 0, 1), longGraph(20, 0, 1), longGraph(25, 15, 1))
	checkMakesNone(t, "one edge too many, some in common", longGraph(20, 0, 1), longGraph(25, 16, 1))
}

func TestTogetherOfManyGraphs(t *testing.T) {
	list := []impl.Graph{}
	for i := range 3000 {
		list = append(list, graph(impl.MaxVerts, countedEdge(i%impl.MaxEdges*7)))
	}
	if got, ok := impl.Together(list); !ok || !sameGraph(got, longGraph(impl.MaxEdges, 0, 7)) {
		t.Errorf("Together of 3000 graphs = %v, %v", got, ok)
	}
	list = append(list, graph(impl.MaxVerts, countedEdge(1)))
	if got, ok := impl.Together(list); ok || !sameGraph(got, impl.Graph{}) {
		t.Errorf("Together of 3001 graphs, with one edge too many = %v, %v", got, ok)
	}
}

// The graphs are pieces of one list, so that the room behind each is the next one.
func TestTogetherOfGraphsInOneMemory(t *testing.T) {
	edges := []impl.Edge{edge(2, 'b', 0), edge(2, 'd', 1), edge(0, 'a', 1), edge(1, 'a', 2), edge(0, 'c', 0)}
	before := slices.Clone(edges)
	list := []impl.Graph{{Size: 3, Edges: edges[:2]}, {Size: 3, Edges: edges[2:4]}, {Size: 3, Edges: edges[4:]}}
	want := graph(3, edge(0, 'a', 1), edge(0, 'c', 0), edge(1, 'a', 2), edge(2, 'b', 0), edge(2, 'd', 1))
	if got, ok := impl.Together(list); !ok || !sameGraph(got, want) {
		t.Errorf("Together of pieces of one list = %v, %v; not %v", got, ok, want)
	}
	if !slices.Equal(edges, before) {
		t.Errorf("Together wrote into what was given: %v", edges)
	}
}
