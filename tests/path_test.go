package tests

import (
	"fmt"
	"math"
	"regexp"
	"slices"
	"strings"
	"testing"
	"unsafe"

	"loop.example/g00250/impl"
)

func stepOf(label byte) impl.Piece   { return impl.Piece{Op: impl.PaStep, Label: label} }
func rowOf(kids ...int) impl.Piece   { return impl.Piece{Op: impl.PaRow, Kids: kids} }
func altOf(kids ...int) impl.Piece   { return impl.Piece{Op: impl.PaAlt, Kids: kids} }
func starOf(kids ...int) impl.Piece  { return impl.Piece{Op: impl.PaStar, Kids: kids} }
func plusOf(kids ...int) impl.Piece  { return impl.Piece{Op: impl.PaPlus, Kids: kids} }
func optOf(kids ...int) impl.Piece   { return impl.Piece{Op: impl.PaOpt, Kids: kids} }
func path(p ...impl.Piece) impl.Path { return impl.Path{Pieces: p} }

func samePath(a, b impl.Path) bool {
	return slices.EqualFunc(a.Pieces, b.Pieces, func(x, y impl.Piece) bool {
		return x.Op == y.Op && x.Label == y.Label && slices.Equal(x.Kids, y.Kids)
	})
}

// rightPath is the chapter's sentence, clause by clause.
func rightPath(p impl.Path) bool {
	right := len(p.Pieces) >= 1 && len(p.Pieces) <= 60
	for place, x := range p.Pieces {
		switch x.Op {
		case impl.PaStep:
			right = right && strings.Contains("abcd", string(rune(x.Label))) && len(x.Kids) == 0
		case impl.PaRow, impl.PaAlt:
			right = right && x.Label == 0 && len(x.Kids) > 1
		case impl.PaStar, impl.PaPlus, impl.PaOpt:
			right = right && x.Label == 0 && len(x.Kids) == 1
		default:
			right = false
		}
		for _, kid := range x.Kids {
			right = right && kid > -1 && kid < place
		}
	}
	return right
}

// readPathByHand cuts the text into ever smaller ones, where no bracket is open.
func readPathByHand(text string) (impl.Path, bool) {
	p := impl.Path{}
	if len(text) > 20 || !bracketsByHand(text) {
		return p, false
	}
	if _, ok := alternativesByHand(&p, text); !ok {
		return impl.Path{}, false
	}
	return p, true
}

func bracketsByHand(text string) bool {
	open := 0
	for _, b := range []byte(text) {
		open += strings.Count("(", string(rune(b))) - strings.Count(")", string(rune(b)))
		if open < 0 {
			return false
		}
	}
	return open == 0
}

// cutByHand begins a new piece ahead of each byte that starts says so of, outside all brackets.
func cutByHand(text string, starts func(b byte) bool) []string {
	out, open := []string{""}, 0
	for i := range len(text) {
		if open == 0 && starts(text[i]) {
			out = append(out, "")
		}
		switch text[i] {
		case '(':
			open++
		case ')':
			open--
		}
		out[len(out)-1] += text[i : i+1]
	}
	return out
}

func alternativesByHand(p *impl.Path, text string) (int, bool) {
	cut := cutByHand(text, func(b byte) bool { return b == '|' })
	for i := range cut[1:] {
		cut[1+i] = cut[1+i][1:]
	}
	return allByHand(p, cut, impl.PaAlt, rowByHand)
}

func rowByHand(p *impl.Path, text string) (int, bool) {
	cut := cutByHand(text, func(b byte) bool { return !strings.Contains("*+?)", string(rune(b))) })
	if cut[0] != "" || len(cut) == 1 {
		return 0, false
	}
	return allByHand(p, cut[1:], impl.PaRow, signedByHand)
}

func allByHand(p *impl.Path, texts []string, op int, read func(p *impl.Path, text string) (int, bool)) (int, bool) {
	kids := []int{}
	for _, text := range texts {
		kid, ok := read(p, text)
		if !ok {
			return 0, false
		}
		kids = append(kids, kid)
	}
	if len(kids) == 1 {
		return kids[0], true
	}
	p.Pieces = append(p.Pieces, impl.Piece{Op: op, Kids: kids})
	return len(p.Pieces) - 1, true
}

func signedByHand(p *impl.Path, text string) (int, bool) {
	last := len(text) - 1
	if op, ok := map[byte]int{'*': impl.PaStar, '+': impl.PaPlus, '?': impl.PaOpt}[text[last]]; ok {
		kid, ok := signedByHand(p, text[:last])
		p.Pieces = append(p.Pieces, impl.Piece{Op: op, Kids: []int{kid}})
		return len(p.Pieces) - 1, ok
	}
	if text[0] == '(' {
		return alternativesByHand(p, text[1:last])
	}
	p.Pieces = append(p.Pieces, stepOf(text[0]))
	return len(p.Pieces) - 1, len(text) == 1 && text[0] >= 'a' && text[0] <= 'd'
}

// pairSet holds from where to where something leads.
type pairSet map[[2]int]struct{}

// pairsByHand goes through all pieces of a right path; again and again is what is open over all vertices in the middle.
func pairsByHand(g impl.Graph, p impl.Path) [][]int {
	if !rightGraph(g) || !rightPath(p) {
		return nil
	}
	all := []pairSet{}
	for _, x := range p.Pieces {
		all = append(all, pairsOfPiece(g, x, all))
	}
	out := [][]int{}
	for from := range g.Size {
		for to := range g.Size {
			if _, there := all[len(all)-1][[2]int{from, to}]; there {
				out = append(out, []int{from, to})
			}
		}
	}
	return out
}

func pairsOfPiece(g impl.Graph, x impl.Piece, ahead []pairSet) pairSet {
	out := pairSet{}
	switch x.Op {
	case impl.PaStep:
		for _, e := range g.Edges {
			if e.Label == x.Label {
				out[[2]int{e.From, e.To}] = struct{}{}
			}
		}
	case impl.PaRow:
		out = ahead[x.Kids[0]]
		for _, kid := range x.Kids[1:] {
			out = behindByHand(out, ahead[kid])
		}
	default:
		for _, kid := range x.Kids {
			for pair := range ahead[kid] {
				out[pair] = struct{}{}
			}
		}
	}
	if x.Op == impl.PaStar || x.Op == impl.PaPlus {
		openByHand(g.Size, out)
	}
	if x.Op == impl.PaStar || x.Op == impl.PaOpt {
		for v := range g.Size {
			out[[2]int{v, v}] = struct{}{}
		}
	}
	return out
}

func behindByHand(a, b pairSet) pairSet {
	out := pairSet{}
	for first := range a {
		for second := range b {
			if first[1] == second[0] {
				out[[2]int{first[0], second[1]}] = struct{}{}
			}
		}
	}
	return out
}

func openByHand(size int, pairs pairSet) {
	for middle := range size {
		for from := range size {
			for to := range size {
				_, first := pairs[[2]int{from, middle}]
				_, second := pairs[[2]int{middle, to}]
				if first && second {
					pairs[[2]int{from, to}] = struct{}{}
				}
			}
		}
	}
}

func endsByHand(g impl.Graph, p impl.Path, from int) []int {
	out := []int{}
	for _, pair := range pairsByHand(g, p) {
		if pair[0] == from {
			out = append(out, pair[1])
		}
	}
	return out
}

// turnedPathByHand writes each row's kids from the last one on.
func turnedPathByHand(p impl.Path) impl.Path {
	out := impl.Path{}
	right := rightPath(p)
	for _, x := range p.Pieces {
		kids := []int{}
		for i := range x.Kids {
			if right && x.Op == impl.PaRow {
				kids = append(kids, x.Kids[len(x.Kids)-1-i])
			} else {
				kids = append(kids, x.Kids[i])
			}
		}
		out.Pieces = append(out.Pieces, impl.Piece{Op: x.Op, Label: x.Label, Kids: kids})
	}
	return out
}

// roomyPath has spare room behind its pieces and behind the kids of each, with right things of its own in it.
func roomyPath(p impl.Path) impl.Path {
	out := make([]impl.Piece, 0, len(p.Pieces)+2)
	for _, x := range p.Pieces {
		out = append(out, impl.Piece{Op: x.Op, Label: x.Label, Kids: roomyRow(x.Kids)})
	}
	spare := out[len(out):cap(out)]
	for i := range spare {
		spare[i] = rowOf(roomyRow([]int{0, i})...)
	}
	return impl.Path{Pieces: out}
}

// wholePath tells all of a path, the places of its lists and the room behind them too.
func wholePath(p impl.Path) string {
	out := fmt.Sprintf("%p %d", p.Pieces, len(p.Pieces))
	for _, x := range p.Pieces[:cap(p.Pieces)] {
		out += fmt.Sprintf("; %d %d %s", x.Op, x.Label, wholeRow(x.Kids))
	}
	return out
}

func spansOfPath(p impl.Path) []span {
	from := uintptr(unsafe.Pointer(unsafe.SliceData(p.Pieces)))
	out := []span{{from, from + uintptr(cap(p.Pieces))*unsafe.Sizeof(impl.Piece{})}}
	for _, x := range p.Pieces[:cap(p.Pieces)] {
		out = append(out, spanOfRow(x.Kids))
	}
	return out
}

func spansOfPairs(pairs [][]int) []span {
	from := uintptr(unsafe.Pointer(unsafe.SliceData(pairs)))
	out := []span{{from, from + uintptr(cap(pairs))*unsafe.Sizeof([]int{})}}
	for _, pair := range pairs[:cap(pairs)] {
		out = append(out, spanOfRow(pair))
	}
	return out
}

// mustRead is for texts that are right by the table of the tests.
func mustRead(t *testing.T, text string) impl.Path {
	t.Helper()
	p, ok := readPathByHand(text)
	if !ok {
		t.Fatalf("%q is no path", text)
	}
	return p
}

func checkReadPath(t *testing.T, text string) {
	t.Helper()
	want, right := readPathByHand(text)
	got, ok := impl.ReadPath(text)
	if ok != right || !samePath(got, want) {
		t.Errorf("ReadPath(%q) = %v, %v; not %v, %v", text, got, ok, want, right)
	}
	if ok && !impl.PathOk(got) {
		t.Errorf("ReadPath(%q) = %v, which is not right", text, got)
	}
	again, _ := impl.ReadPath(text)
	checkApart(t, fmt.Sprintf("ReadPath(%q)", text), append(spansOfPath(got), spansOfPath(again)...), nil)
}

func checkNoPath(t *testing.T, text string) {
	t.Helper()
	if got, ok := impl.ReadPath(text); ok || len(got.Pieces) != 0 {
		t.Errorf("ReadPath(%q) = %v, %v; not refused", text, got, ok)
	}
}

// checkLeads asks PathEnds from each vertex, and from some that are none, and PathPairs; also that nothing given is written into or shared.
func checkLeads(t *testing.T, g impl.Graph, p impl.Path) {
	t.Helper()
	wantPairs := pairsByHand(g, p)
	wide, long := roomyGraph(g), roomyPath(p)
	before := wholeGraph(wide) + wholePath(long)
	given := append(spansOfGraph(wide), spansOfPath(long)...)
	for _, from := range []int{math.MinInt, -12, -1, 0, 1, 2, 3, 4, 5, 6, 7, 8, 9, 10, 11, 12, 13, 16, 63, 64, math.MaxInt} {
		name := fmt.Sprintf("PathEnds(%v, %v, %d)", g, p, from)
		want := []int{}
		for _, pair := range wantPairs {
			if pair[0] == from {
				want = append(want, pair[1])
			}
		}
		got := impl.PathEnds(wide, long, from)
		if !slices.Equal(got, want) {
			t.Fatalf("%s = %v; not %v", name, got, want)
		}
		checkApart(t, name, []span{spanOfRow(got), spanOfRow(impl.PathEnds(wide, long, from))}, given)
	}
	name := fmt.Sprintf("PathPairs(%v, %v)", g, p)
	got := impl.PathPairs(wide, long)
	if !slices.EqualFunc(got, wantPairs, slices.Equal[[]int]) {
		t.Fatalf("%s = %v; not %v", name, got, wantPairs)
	}
	checkApart(t, name, append(spansOfPairs(got), spansOfPairs(impl.PathPairs(wide, long))...), given)
	if wholeGraph(wide)+wholePath(long) != before {
		t.Fatalf("PathEnds or PathPairs of %v, %v wrote into what was given", g, p)
	}
}

func checkTurnedPath(t *testing.T, p impl.Path) {
	t.Helper()
	name := fmt.Sprintf("TurnedPath(%v)", p)
	want := turnedPathByHand(p)
	p = roomyPath(p)
	before := wholePath(p)
	got := impl.TurnedPath(p)
	if !samePath(got, want) {
		t.Errorf("%s = %v; not %v", name, got, want)
	}
	if impl.PathOk(got) != impl.PathOk(p) {
		t.Errorf("%s: one of both is right alone", name)
	}
	if twice := impl.TurnedPath(got); !samePath(twice, p) {
		t.Errorf("%s, turned again = %v", name, twice)
	}
	if wholePath(p) != before {
		t.Errorf("%s wrote into what was given", name)
	}
	checkApart(t, name, append(spansOfPath(got), spansOfPath(impl.TurnedPath(p))...), spansOfPath(p))
}

// checkLeadsBack asks that the path that leads back leads, in the graph that is turned, from each end to each beginning.
func checkLeadsBack(t *testing.T, g impl.Graph, p impl.Path) {
	t.Helper()
	want := [][]int{}
	for _, pair := range impl.PathPairs(g, p) {
		want = append(want, []int{pair[1], pair[0]})
	}
	slices.SortFunc(want, slices.Compare[[]int])
	got := impl.PathPairs(impl.Turned(g), impl.TurnedPath(p))
	if !slices.EqualFunc(got, want, slices.Equal[[]int]) {
		t.Fatalf("of %v, %v back: %v; not %v", g, p, got, want)
	}
}

func checkStepOnly(t *testing.T, name string, p impl.Path, want bool) {
	t.Helper()
	p = roomyPath(p)
	before := wholePath(p)
	if got := impl.StepOnly(p); got != want {
		t.Errorf("StepOnly of %s = %v; not %v", name, got, want)
	}
	if wholePath(p) != before {
		t.Errorf("StepOnly of %s wrote into what was given", name)
	}
}

func checkPathOk(t *testing.T, name string, p impl.Path, want bool) {
	t.Helper()
	if rightPath(p) != want {
		t.Fatalf("%s, %v: the test itself is wrong", name, p)
	}
	p = roomyPath(p)
	before := wholePath(p)
	if got := impl.PathOk(p); got != want {
		t.Errorf("PathOk of %s, %v = %v; not %v", name, p, got, want)
	}
	if wholePath(p) != before {
		t.Errorf("PathOk of %s wrote into what was given", name)
	}
}

var rightPathTexts = []string{
	"a", "b", "c", "d", "ab", "ba", "abcd", "a|b", "a|b|c|d", "ab|cd", "a|bc|d", "ab|c", "a*", "a+", "a?", "a**", "a++", "a??", "a*+", "a+*", "a?+", "a+?", "a*?", "a?*",
	"(a)", "((a))", "(ab)", "(ab)c", "a(bc)", "((ab)c)d", "a(b(cd))", "(a|b)", "(a|b)|c", "a|(b|c)", "(a|b)c", "a(b|c)", "(a|b)(c|d)", "(ab)*", "(ab)+", "(ab)?", "(a|b)*", "(a|b)+", "(a|b)?",
	"a*b*", "a+b+", "a?b?", "ab*", "a*b", "ab+c?", "(a*)*", "(a+)+", "(a?)?", "(a?)+", "(a?)*", "(a*b*)*", "(a*|b)+", "(a?b?)+", "((a|b)*c)+d?", "a(a|b)*", "(ab|ba)*a?", "((a)(b))", "(((a|b)))**", "a|a", "aa", "a*a*",
}

var wrongPathTexts = []string{
	"", " ", "(", ")", "()", "(())", ")(", "a)", "(a", "a(", "a)b", "((a)", "(a))", "a()", "()a", "(a)b)", "(a|b", "a|b)", "a)(b",
	"|", "||", "a|", "|a", "a||b", "(|a)", "(a|)", "(|)", "a|b|", "|a|b", "a(|)b", "a|*", "a|+b", "(a||b)",
	"*", "+", "?", "*a", "+a", "?a", "(*a)", "(+)", "a(?b)", "a|?", "a(*)", "|*",
	"e", "`", "A", "ae", "ea", "a b", " a", "a ", "a\x00", "\x00a", "\x00", "\xff", "a\xff", "a.b", "a&b", "[a]", "{a}", "a-b", "a\n", "é", "a|e", "(e)", "e*", "1", "a2",
}

func wrongPaths() map[string]impl.Path {
	a, b := stepOf('a'), stepOf('b')
	labelled := func(x impl.Piece) impl.Piece { x.Label = 'a'; return x }
	return map[string]impl.Path{
		"nothing":                      {},
		"no pieces":                    path(),
		"one piece too many":           longPath(61, a),
		"many pieces too many":         longPath(200, a),
		"an Op of 0":                   path(a, impl.Piece{}),
		"an Op of 0 ahead":             path(impl.Piece{}, a),
		"an Op of 0 with a Label":      path(impl.Piece{Label: 'a'}),
		"an Op of 7":                   path(a, impl.Piece{Op: 7, Kids: []int{0}}),
		"an Op of 7 with a Label":      path(impl.Piece{Op: 7, Label: 'a'}),
		"an Op below 0":                path(impl.Piece{Op: -1, Label: 'a'}),
		"a great Op":                   path(impl.Piece{Op: math.MaxInt, Label: 'a'}),
		"a least Op":                   path(impl.Piece{Op: math.MinInt, Label: 'a'}),
		"a step of no Label":           path(stepOf(0)),
		"the Label ahead of a":         path(stepOf('a' - 1)),
		"the Label behind d":           path(stepOf('d' + 1)),
		"a Label A":                    path(stepOf('A')),
		"a Label of 255":               path(stepOf(255)),
		"a wrong Label ahead":          path(stepOf('e'), a),
		"a wrong Label not come to":    path(a, stepOf('e'), starOf(0)),
		"a step with a kid":            path(a, impl.Piece{Op: impl.PaStep, Label: 'b', Kids: []int{0}}),
		"a step with itself as kid":    path(impl.Piece{Op: impl.PaStep, Label: 'b', Kids: []int{0}}),
		"a row of none":                path(a, rowOf()),
		"a row of one":                 path(a, rowOf(0)),
		"a row with a Label":           path(a, b, labelled(rowOf(0, 1))),
		"an alternative of none":       path(a, altOf()),
		"an alternative of one":        path(a, altOf(0)),
		"an alternative with a Label":  path(a, b, labelled(altOf(0, 1))),
		"a star of none":               path(a, starOf()),
		"a star of two":                path(a, b, starOf(0, 1)),
		"a star with a Label":          path(a, labelled(starOf(0))),
		"a plus of none":               path(a, plusOf()),
		"a plus of two":                path(a, b, plusOf(0, 1)),
		"a plus with a Label":          path(a, labelled(plusOf(0))),
		"an opt of none":               path(a, optOf()),
		"an opt of two":                path(a, b, optOf(0, 1)),
		"an opt with a Label":          path(a, labelled(optOf(0))),
		"a star of itself":             path(a, starOf(1)),
		"a star of itself alone":       path(starOf(0)),
		"a star of what is behind":     path(a, starOf(2), b),
		"two that are kids each other": path(starOf(1), starOf(0)),
		"a star of what is below 0":    path(a, starOf(-1)),
		"a star of a great kid":        path(a, starOf(math.MaxInt)),
		"a star of a least kid":        path(a, starOf(math.MinInt)),
		"a plus of itself":             path(a, plusOf(1)),
		"an opt of itself":             path(a, optOf(1)),
		"an opt of what is not there":  path(a, optOf(2)),
		"a row of itself":              path(a, rowOf(0, 1)),
		"a row of itself first":        path(a, rowOf(1, 0)),
		"a row of what is behind":      path(a, rowOf(0, 2), b),
		"a row of what is below 0":     path(a, rowOf(0, -1)),
		"a row of one wrong of many":   path(a, b, rowOf(0, 1, 0, 1, 2, 0)),
		"an alternative of itself":     path(a, altOf(0, 1)),
		"an alternative of below 0":    path(a, altOf(-1, 0)),
		"an alternative of behind":     path(a, altOf(0, 2), b),
		"a fault in the first of 60":   path(append([]impl.Piece{stepOf('e')}, longPath(59, a).Pieces...)...),
		"a fault in the last of 60":    path(append(longPath(59, a).Pieces, starOf(59))...),
	}
}

// longPath is this piece, and behind it, as long as asked for, the star of what is ahead.
func longPath(count int, first impl.Piece) impl.Path {
	p := path(first)
	for len(p.Pieces) < count {
		p.Pieces = append(p.Pieces, starOf(len(p.Pieces)-1))
	}
	return p
}

// doublingPath is a step, and behind it again and again two of the one ahead.
func doublingPath(count int, of func(kids ...int) impl.Piece) impl.Path {
	p := path(stepOf('a'))
	for last := 0; len(p.Pieces) < count; last++ {
		p.Pieces = append(p.Pieces, of(last, last))
	}
	return p
}

type drawing struct{ seed uint32 }

func (d *drawing) below(n int) int {
	d.seed = d.seed*1664525 + 1013904223
	return int(d.seed>>8) % n
}

// drawnPaths are right ones, with kids that are shared, and pieces that are not come to; what is drawn hangs on the seed alone.
func drawnPaths(count int, seed uint32) []impl.Path {
	d := drawing{seed}
	out := []impl.Path{}
	for range count {
		p := path(stepOf(byte('a' + d.below(4))))
		for last := range d.below(14) {
			near := func() int { return last - d.below(min(last+1, 4)) }
			kinds := []impl.Piece{
				stepOf(byte('a' + d.below(4))), stepOf(byte('a' + d.below(4))), rowOf(near(), near()), rowOf(near(), near(), near()),
				altOf(near(), near()), altOf(near(), near(), near()), starOf(near()), plusOf(near()), optOf(near()),
			}
			p.Pieces = append(p.Pieces, kinds[d.below(len(kinds))])
		}
		out = append(out, p)
	}
	return out
}

// drawnPathText is a right one, often longer than MaxPath.
func drawnPathText(d *drawing, deep int) string {
	out := ""
	for i := range 1 + d.below(3) {
		if i > 0 && d.below(2) == 0 {
			out += "|"
		}
		if deep > 0 && d.below(3) == 0 {
			out += "(" + drawnPathText(d, deep-1) + ")"
		} else {
			out += "abcd"[d.below(4):][:1]
		}
		for d.below(3) == 0 {
			out += "*+?"[d.below(3):][:1]
		}
	}
	return out
}

func graphsToLead(count int, seed uint32) []impl.Graph {
	return slices.Concat(rightGraphs(), ringGraphs(), drawnGraphs(count, seed))
}

// ringGraphs have rings of each size, and behind them edges from a vertex to itself, and ones that lead nowhere further.
func ringGraphs() []impl.Graph {
	out := []impl.Graph{}
	for size := 1; size <= impl.MaxVerts; size++ {
		out = append(out, ringGraph(size))
	}
	return append(out,
		graph(4, edge(0, 'a', 0), edge(0, 'b', 1), edge(1, 'b', 2), edge(2, 'b', 2)),
		graph(5, edge(0, 'a', 1), edge(1, 'b', 0), edge(2, 'a', 3), edge(3, 'b', 4)),
		graph(6, edge(0, 'a', 1), edge(0, 'a', 2), edge(1, 'b', 3), edge(2, 'c', 3), edge(3, 'd', 0), edge(4, 'a', 4)),
	)
}

func ringGraph(size int) impl.Graph {
	g := graph(size)
	for v := range size {
		g.Edges = append(g.Edges, edge(v, 'a', (v+1)%size))
	}
	return g
}

func TestConstantsOfPaths(t *testing.T) {
	got := []int{impl.PaStep, impl.PaRow, impl.PaAlt, impl.PaStar, impl.PaPlus, impl.PaOpt, impl.MaxPath}
	if want := []int{1, 2, 3, 4, 5, 6, 20}; !slices.Equal(got, want) {
		t.Errorf("constants are %v; not %v", got, want)
	}
}

func TestPathOk(t *testing.T) {
	for _, text := range rightPathTexts {
		checkPathOk(t, text, mustRead(t, text), true)
	}
	for i, p := range drawnPaths(300, 5) {
		checkPathOk(t, fmt.Sprint("drawn ", i), p, true)
	}
	for name, p := range wrongPaths() {
		checkPathOk(t, name, p, false)
	}
}

func TestPathOkOfEachCountOfPieces(t *testing.T) {
	for count := 1; count <= 64; count++ {
		checkPathOk(t, fmt.Sprint(count, " pieces"), longPath(count, stepOf('d')), count <= 60)
		steps := impl.Path{Pieces: slices.Repeat([]impl.Piece{stepOf('b')}, count)}
		checkPathOk(t, fmt.Sprint(count, " steps"), steps, count <= 60)
	}
}

func TestPathOkOfEachLabel(t *testing.T) {
	for label := range 256 {
		b := byte(label)
		checkPathOk(t, fmt.Sprint("a step ", label), path(stepOf(b)), b == 'a' || b == 'b' || b == 'c' || b == 'd')
		for op := impl.PaRow; op <= impl.PaOpt; op++ {
			kids := []int{0, 0}
			if op >= impl.PaStar {
				kids = kids[:1]
			}
			checkPathOk(t, fmt.Sprint("a piece ", op, " with Label ", label), path(stepOf('a'), impl.Piece{Op: op, Label: b, Kids: kids}), b == 0)
		}
	}
}

func TestPathOkOfEachOpAndCountOfKids(t *testing.T) {
	for _, op := range []int{math.MinInt, -1, 0, 1, 2, 3, 4, 5, 6, 7, 8, 256, 258, 1 << 32, 1<<32 + 2, math.MaxInt} {
		for _, count := range []int{0, 1, 2, 3, 4, 12, 60, 61, 100, 1000} {
			for _, label := range []byte{0, 'a'} {
				x := impl.Piece{Op: op, Label: label, Kids: make([]int, count)}
				many := (op == impl.PaRow || op == impl.PaAlt) && count > 1
				one := op >= impl.PaStar && op <= impl.PaOpt && count == 1
				want := op == impl.PaStep && count == 0 && label == 'a' || label == 0 && (many || one)
				checkPathOk(t, fmt.Sprint("Op ", op, " of ", count, " kids"), path(stepOf('c'), x), want)
			}
		}
	}
}

func TestPathOkOfEachKid(t *testing.T) {
	for _, op := range []func(kids ...int) impl.Piece{starOf, plusOf, optOf} {
		for _, kid := range []int{math.MinInt, -60, -1, 0, 1, 2, 3, 4, 59, 60, math.MaxInt} {
			p := path(stepOf('a'), stepOf('b'), op(kid), stepOf('c'))
			checkPathOk(t, fmt.Sprint("one kid ", kid), p, kid == 0 || kid == 1)
		}
	}
	for _, op := range []func(kids ...int) impl.Piece{rowOf, altOf} {
		for _, kid := range []int{math.MinInt, -60, -1, 0, 1, 2, 3, 4, 59, 60, math.MaxInt} {
			for place := range 4 {
				kids := []int{1, 0, 1, 0}
				kids[place] = kid
				p := path(stepOf('a'), stepOf('b'), op(kids...), stepOf('c'))
				checkPathOk(t, fmt.Sprint("kids ", kids), p, kid == 0 || kid == 1)
			}
		}
	}
}

func TestPathOkOfEmptyKids(t *testing.T) {
	if p := path(impl.Piece{Op: impl.PaStep, Label: 'a', Kids: []int{}}); !impl.PathOk(p) || !impl.StepOnly(p) {
		t.Errorf("a step with an empty list of kids is refused")
	}
}

func TestReadPathThatIsKnown(t *testing.T) {
	a, b, c, d := stepOf('a'), stepOf('b'), stepOf('c'), stepOf('d')
	for text, want := range map[string]impl.Path{
		"a":             path(a),
		"d":             path(d),
		"ab":            path(a, b, rowOf(0, 1)),
		"abcd":          path(a, b, c, d, rowOf(0, 1, 2, 3)),
		"a|b":           path(a, b, altOf(0, 1)),
		"a|b|c":         path(a, b, c, altOf(0, 1, 2)),
		"ab|c":          path(a, b, rowOf(0, 1), c, altOf(2, 3)),
		"a|bc":          path(a, b, c, rowOf(1, 2), altOf(0, 3)),
		"a|bc|d":        path(a, b, c, rowOf(1, 2), d, altOf(0, 3, 4)),
		"a*":            path(a, starOf(0)),
		"a+":            path(a, plusOf(0)),
		"a?":            path(a, optOf(0)),
		"a*+?":          path(a, starOf(0), plusOf(1), optOf(2)),
		"a?*":           path(a, optOf(0), starOf(1)),
		"a+?":           path(a, plusOf(0), optOf(1)),
		"ab*":           path(a, b, starOf(1), rowOf(0, 2)),
		"a*b":           path(a, starOf(0), b, rowOf(1, 2)),
		"a|b*":          path(a, b, starOf(1), altOf(0, 2)),
		"(a)":           path(a),
		"((a))*":        path(a, starOf(0)),
		"(ab)":          path(a, b, rowOf(0, 1)),
		"(ab)c":         path(a, b, rowOf(0, 1), c, rowOf(2, 3)),
		"a(bc)":         path(a, b, c, rowOf(1, 2), rowOf(0, 3)),
		"(a|b)|c":       path(a, b, altOf(0, 1), c, altOf(2, 3)),
		"a|(b|c)":       path(a, b, c, altOf(1, 2), altOf(0, 3)),
		"(ab)*":         path(a, b, rowOf(0, 1), starOf(2)),
		"(a|b)?c":       path(a, b, altOf(0, 1), optOf(2), c, rowOf(3, 4)),
		"a(a|b)*":       path(a, a, b, altOf(1, 2), starOf(3), rowOf(0, 4)),
		"((a|b)+c)?|dd": path(a, b, altOf(0, 1), plusOf(2), c, rowOf(3, 4), optOf(5), d, d, rowOf(7, 8), altOf(6, 9)),
	} {
		if got, ok := impl.ReadPath(text); !ok || !samePath(got, want) {
			t.Errorf("ReadPath(%q) = %v, %v; not %v", text, got, ok, want)
		}
		checkReadPath(t, text)
	}
}

func TestReadPathOfRightTexts(t *testing.T) {
	for _, text := range rightPathTexts {
		if _, ok := impl.ReadPath(text); !ok {
			t.Errorf("ReadPath(%q) is refused", text)
		}
		checkReadPath(t, text)
	}
}

func TestReadPathOfWrongTexts(t *testing.T) {
	for _, text := range wrongPathTexts {
		checkNoPath(t, text)
		checkReadPath(t, text)
		checkReadPath(t, "a|("+text+")")
	}
}

func TestReadPathAtTheLimit(t *testing.T) {
	long := []string{
		strings.Repeat("a", 20), "a" + strings.Repeat("*", 19), "d" + strings.Repeat("?+", 9) + "*", strings.Repeat("a|", 9) + "ab", strings.Repeat("ab|", 6) + "ab",
		strings.Repeat("(", 9) + "ab" + strings.Repeat(")", 9), strings.Repeat("(a)", 6) + "cd", strings.Repeat("a?", 10), strings.Repeat("(a|b)*", 3) + "dd",
	}
	for _, text := range long {
		if len(text) != impl.MaxPath {
			t.Fatalf("%q has %d bytes", text, len(text))
		}
		if _, ok := impl.ReadPath(text); !ok {
			t.Errorf("ReadPath(%q), of MaxPath bytes, is refused", text)
		}
		checkReadPath(t, text)
		for _, more := range []string{"a", "*", "+", "?"} {
			checkNoPath(t, text+more)
		}
		checkNoPath(t, "a"+text)
		checkNoPath(t, "("+text+")")
	}
	for count := 1; count <= 40; count++ {
		checkReadPath(t, strings.Repeat("b", count))
		checkReadPath(t, strings.Repeat("(", count)+"b"+strings.Repeat(")", count))
	}
}

func TestReadPathOfGreatTexts(t *testing.T) {
	for _, part := range []string{"(", ")", "a", "a|", "*", "(a", "\x00"} {
		checkNoPath(t, strings.Repeat(part, 1<<20))
	}
	checkNoPath(t, strings.Repeat("(", 1<<20)+"a"+strings.Repeat(")", 1<<20))
}

func TestReadPathOfShortTexts(t *testing.T) {
	for _, signs := range []string{"ad|()+?", "be(|)*\x00"} {
		texts := []string{""}
		for range 7 {
			longer := []string{}
			for _, text := range texts {
				checkReadPath(t, text)
				for i := range len(signs) {
					longer = append(longer, text+signs[i:i+1])
				}
			}
			texts = longer
		}
	}
}

func TestReadPathOfEachByte(t *testing.T) {
	for b := range 256 {
		one := string([]byte{byte(b)})
		for _, text := range []string{one, "a" + one, one + "a", "a" + one + "b", "(a" + one, "(" + one + ")", "a|" + one, one + "*"} {
			checkReadPath(t, text)
		}
	}
}

func TestReadPathOfDrawnTexts(t *testing.T) {
	d := drawing{71}
	for range 4000 {
		text := drawnPathText(&d, 3)
		if _, ok := impl.ReadPath(text); ok != (len(text) <= impl.MaxPath) {
			t.Errorf("ReadPath(%q), a path of %d bytes: %v", text, len(text), ok)
		}
		checkReadPath(t, text)
		at := d.below(len(text))
		checkReadPath(t, text[:at]+text[at+1:])
		checkReadPath(t, text[:at]+"abcd()|*+?e"[d.below(11):][:1]+text[at+1:])
		checkReadPath(t, text[:at]+"()|*"[d.below(4):][:1]+text[at:])
	}
}

func TestPathEndsThatAreKnown(t *testing.T) {
	three := graph(3, edge(0, 'a', 1), edge(1, 'a', 2), edge(2, 'b', 0))
	self := graph(4, edge(0, 'a', 0), edge(0, 'b', 1), edge(1, 'b', 2), edge(2, 'b', 2))
	fork := graph(6, edge(0, 'a', 1), edge(0, 'a', 2), edge(1, 'b', 3), edge(2, 'c', 3), edge(3, 'd', 0), edge(4, 'a', 4))
	for _, c := range []struct {
		g    impl.Graph
		text string
		from int
		want []int
	}{
		{three, "a", 0, []int{1}}, {three, "a", 2, nil}, {three, "b", 2, []int{0}}, {three, "c", 0, nil},
		{three, "aa", 0, []int{2}}, {three, "ab", 1, []int{0}}, {three, "ba", 1, nil}, {three, "aab", 0, []int{0}}, {three, "ba", 2, []int{1}},
		{three, "a|b", 2, []int{0}}, {three, "a|b", 0, []int{1}}, {three, "a|aa|aab", 0, []int{0, 1, 2}},
		{three, "a*", 0, []int{0, 1, 2}}, {three, "a+", 0, []int{1, 2}}, {three, "a?", 0, []int{0, 1}}, {three, "a*", 2, []int{2}}, {three, "a+", 2, nil}, {three, "a?", 2, []int{2}},
		{three, "c*", 1, []int{1}}, {three, "c+", 1, nil}, {three, "c?", 1, []int{1}}, {three, "(aab)*", 1, []int{1}}, {three, "(aab)+", 0, []int{0}}, {three, "(aab)+", 1, nil},
		{three, "a(a|b)*", 0, []int{0, 1, 2}}, {three, "(a|b)+", 1, []int{0, 1, 2}}, {three, "(ab)*a", 1, []int{1, 2}}, {three, "(aa)*", 0, []int{0, 2}},
		{three, "a+?", 2, []int{2}}, {three, "a?+", 2, []int{2}}, {three, "a?+", 0, []int{0, 1, 2}}, {three, "(a*)*b", 0, []int{0}}, {three, "a*b*", 1, []int{0, 1, 2}},
		{self, "a", 0, []int{0}}, {self, "a+", 0, []int{0}}, {self, "a*b", 0, []int{1}}, {self, "b*", 0, []int{0, 1, 2}}, {self, "b+", 2, []int{2}}, {self, "bb", 0, []int{2}}, {self, "bbbb", 1, []int{2}}, {self, "b*", 3, []int{3}},
		{fork, "a", 0, []int{1, 2}}, {fork, "ab", 0, []int{3}}, {fork, "a(b|c)", 0, []int{3}}, {fork, "a(b|c)d", 0, []int{0}}, {fork, "(a(b|c)d)+", 0, []int{0}}, {fork, "a(b|c)?", 0, []int{1, 2, 3}}, {fork, "ac?d?", 0, []int{0, 1, 2, 3}},
		{fork, "(a|b|c|d)*", 1, []int{0, 1, 2, 3}}, {fork, "a+", 4, []int{4}}, {fork, "(a|b|c|d)*", 5, []int{5}},
		{graph(2), "a", 0, nil}, {graph(2), "a*", 1, []int{1}}, {graph(2), "a+", 1, nil}, {graph(1), "(a?b?)+", 0, []int{0}},
	} {
		p := mustRead(t, c.text)
		if got := impl.PathEnds(c.g, p, c.from); !slices.Equal(got, c.want) {
			t.Errorf("PathEnds(%v, %q, %d) = %v; not %v", c.g, c.text, c.from, got, c.want)
		}
		checkLeads(t, c.g, p)
	}
}

func TestPathPairsThatAreKnown(t *testing.T) {
	three := graph(3, edge(0, 'a', 1), edge(1, 'a', 2), edge(2, 'b', 0))
	for text, want := range map[string][][]int{
		"a":      {{0, 1}, {1, 2}},
		"b":      {{2, 0}},
		"c":      {},
		"c*":     {{0, 0}, {1, 1}, {2, 2}},
		"a?":     {{0, 0}, {0, 1}, {1, 1}, {1, 2}, {2, 2}},
		"a+":     {{0, 1}, {0, 2}, {1, 2}},
		"a|b":    {{0, 1}, {1, 2}, {2, 0}},
		"ab":     {{1, 0}},
		"ba":     {{2, 1}},
		"(a|b)+": {{0, 0}, {0, 1}, {0, 2}, {1, 0}, {1, 1}, {1, 2}, {2, 0}, {2, 1}, {2, 2}},
	} {
		if got := impl.PathPairs(three, mustRead(t, text)); !slices.EqualFunc(got, want, slices.Equal[[]int]) {
			t.Errorf("PathPairs of %q = %v; not %v", text, got, want)
		}
	}
	if got := impl.PathPairs(graph(12), mustRead(t, "a*")); len(got) != 12 || !slices.Equal(got[11], []int{11, 11}) {
		t.Errorf("PathPairs of nothing taken in 12 vertices = %v", got)
	}
	if got := impl.PathPairs(ringGraph(12), mustRead(t, "a+")); len(got) != 144 {
		t.Errorf("PathPairs all round in a ring of 12 are %d; not 144", len(got))
	}
}

func TestPathsLeadAsByHand(t *testing.T) {
	for _, g := range graphsToLead(12, 3) {
		for _, text := range rightPathTexts {
			checkLeads(t, g, mustRead(t, text))
		}
	}
}

func TestDrawnPathsLeadAsByHand(t *testing.T) {
	graphs := graphsToLead(40, 17)
	for i, p := range drawnPaths(1500, 29) {
		checkLeads(t, graphs[i%len(graphs)], p)
	}
}

// partOf is the path whose whole stands at this place.
func partOf(p impl.Path, place int) impl.Path { return impl.Path{Pieces: p.Pieces[:place+1]} }

// TestAPathLeadsWhereItsPartsDo asks PathEnds of the whole against PathEnds of its kids.
func TestAPathLeadsWhereItsPartsDo(t *testing.T) {
	graphs := graphsToLead(30, 23)
	for i, p := range drawnPaths(1200, 41) {
		g := graphs[i%len(graphs)]
		for from := range g.Size {
			want := endsOfParts(g, p, from)
			if got := impl.PathEnds(g, p, from); !slices.Equal(got, want) {
				t.Fatalf("PathEnds(%v, %v, %d) = %v; its parts lead to %v", g, p, from, got, want)
			}
		}
	}
}

func endsOfParts(g impl.Graph, p impl.Path, from int) []int {
	whole := p.Pieces[len(p.Pieces)-1]
	onward := func(froms []int, kid int) []int {
		out := []int{}
		for _, v := range froms {
			out = append(out, impl.PathEnds(g, partOf(p, kid), v)...)
		}
		slices.Sort(out)
		return slices.Compact(out)
	}
	out := []int{}
	switch whole.Op {
	case impl.PaStep:
		return impl.NextOf(g, from, whole.Label)
	case impl.PaRow:
		out = []int{from}
		for _, kid := range whole.Kids {
			out = onward(out, kid)
		}
		return out
	case impl.PaStar, impl.PaPlus:
		now := []int{from}
		for range 13 {
			now = onward(now, whole.Kids[0])
			out = append(out, now...)
		}
	default:
		for _, kid := range whole.Kids {
			out = append(out, impl.PathEnds(g, partOf(p, kid), from)...)
		}
	}
	if whole.Op == impl.PaStar || whole.Op == impl.PaOpt {
		out = append(out, from)
	}
	slices.Sort(out)
	return slices.Compact(out)
}

// wordsByHand are all words of these labels up to this length.
func wordsByHand(labels string, most int) []string {
	out := []string{""}
	for at := 0; len(out[at]) < most; at++ {
		for i := range len(labels) {
			out = append(out, out[at]+labels[i:i+1])
		}
	}
	return out
}

// smallGraphs have so few vertices that short words come to each end.
func smallGraphs() []impl.Graph {
	return []impl.Graph{
		graph(3), graph(2, edge(0, 'a', 1), edge(1, 'b', 0)), graph(3, edge(0, 'a', 1), edge(1, 'a', 2), edge(2, 'b', 0)), graph(3, edge(0, 'a', 1), edge(1, 'a', 2), edge(2, 'a', 0)),
		graph(3, edge(0, 'a', 0), edge(0, 'b', 1), edge(1, 'a', 2), edge(2, 'b', 2)), graph(3, edge(0, 'a', 1), edge(0, 'a', 2), edge(1, 'b', 0), edge(2, 'b', 2)),
	}
}

// checkManyPaths makes the check of each path that is written out in each graph, and of each drawn one in one of them.
func checkManyPaths(t *testing.T, check func(t *testing.T, g impl.Graph, p impl.Path)) {
	t.Helper()
	graphs := graphsToLead(40, 61)
	for _, g := range graphs {
		for _, text := range rightPathTexts {
			check(t, g, mustRead(t, text))
		}
	}
	for i, p := range drawnPaths(2000, 67) {
		check(t, graphs[i%len(graphs)], p)
	}
}

// bracketed is the text with each piece in brackets of its own, so that a sign behind a sign says nothing else to a regular expression.
func bracketed(p impl.Path, place int) string {
	x := p.Pieces[place]
	kids := []string{}
	for _, kid := range x.Kids {
		kids = append(kids, bracketed(p, kid))
	}
	switch x.Op {
	case impl.PaStep:
		return string(rune(x.Label))
	case impl.PaRow:
		return "(?:" + strings.Join(kids, "") + ")"
	case impl.PaAlt:
		return "(?:" + strings.Join(kids, "|") + ")"
	}
	return "(?:" + kids[0] + "*+?"[x.Op-impl.PaStar:][:1] + ")"
}

// TestPathsLeadWhereTheirWordsDo walks each word that is one of the path; in three vertices and with three steps one of at most 11 steps comes to each end.
func TestPathsLeadWhereTheirWordsDo(t *testing.T) {
	words := wordsByHand("ab", 11)
	graphs := smallGraphs()
	for _, text := range []string{"a", "ab", "a|b", "a*", "a+", "a?", "ab*", "(ab)*", "(ab)+", "(a|b)*", "a+?", "a?+", "(a?b)+", "(aab)*", "(aab)+", "a*b*", "(a*b*)+", "a|bb", "(a|bb)+", "(aa)*b?", "((a|b)a)*", "(a+b)?"} {
		p := mustRead(t, text)
		fits := regexp.MustCompile("^" + bracketed(p, len(p.Pieces)-1) + "$")
		taken := slices.DeleteFunc(slices.Clone(words), func(word string) bool { return !fits.MatchString(word) })
		for _, g := range graphs {
			for from := range g.Size {
				want := []int{}
				for _, word := range taken {
					want = append(want, wordLeads(g, from, word)...)
				}
				slices.Sort(want)
				want = slices.Compact(want)
				if got := impl.PathEnds(g, p, from); !slices.Equal(got, want) {
					t.Errorf("PathEnds(%v, %q, %d) = %v; its words lead to %v", g, text, from, got, want)
				}
			}
		}
	}
}

func wordLeads(g impl.Graph, from int, word string) []int {
	now := []int{from}
	for i := range len(word) {
		next := []int{}
		for _, v := range now {
			next = append(next, nextByHand(g, v, word[i])...)
		}
		slices.Sort(next)
		now = slices.Compact(next)
	}
	return now
}

func TestAgainAndAgainEnds(t *testing.T) {
	for _, g := range graphsToLead(10, 5) {
		for _, text := range []string{
			"c*", "c+", "(cc)*", "(cd)+", "(a|b|c|d)*", "(a|b|c|d)+", "(a*)*", "(a*)+", "(a+)*", "(a?)*", "(a?)+", "(a*b*)*", "(a*b*)+", "(a?b?c?d?)+", "((a|b?)*)+", "a**++??", "((a*)*)*", "((a?)?)+", "(aa)+", "(aaa)*",
		} {
			checkLeads(t, g, mustRead(t, text))
		}
		checkLeads(t, g, longPath(60, stepOf('a')))
		checkLeads(t, g, longPath(60, stepOf('c')))
	}
}

func TestAgainAndAgainInRings(t *testing.T) {
	for size := 1; size <= impl.MaxVerts; size++ {
		g := ringGraph(size)
		round := impl.Path{Pieces: slices.Repeat([]impl.Piece{stepOf('a')}, size)}
		kids := []int{}
		for place := range size {
			kids = append(kids, place)
		}
		if size > 1 {
			round.Pieces = append(round.Pieces, rowOf(kids...))
		}
		last := len(round.Pieces) - 1
		for v := range size {
			for _, again := range []impl.Piece{starOf(last), plusOf(last)} {
				all := impl.PathEnds(g, path(stepOf('a'), impl.Piece{Op: again.Op, Kids: []int{0}}), v)
				if len(all) != size {
					t.Errorf("%d again and again from %d in a ring of %d: %v; not all", again.Op, v, size, all)
				}
				back := impl.PathEnds(g, impl.Path{Pieces: append(slices.Clone(round.Pieces), again)}, v)
				if !slices.Equal(back, []int{v}) {
					t.Errorf("%d all round again and again from %d in a ring of %d: %v; not back alone", again.Op, v, size, back)
				}
			}
		}
	}
}

// TestKidsThatAreOnePiece has paths of more steps than can ever be walked one by one.
func TestKidsThatAreOnePiece(t *testing.T) {
	for size := 1; size <= impl.MaxVerts; size++ {
		g := ringGraph(size)
		for count := 1; count <= 60; count++ {
			steps := (1 << (count - 1)) % size
			for v := range size {
				if got := impl.PathEnds(g, doublingPath(count, rowOf), v); !slices.Equal(got, []int{(v + steps) % size}) {
					t.Fatalf("a row of %d pieces from %d in a ring of %d leads to %v", count, v, size, got)
				}
				if got := impl.PathEnds(g, doublingPath(count, altOf), v); !slices.Equal(got, []int{(v + 1) % size}) {
					t.Fatalf("alternatives of %d pieces from %d in a ring of %d lead to %v", count, v, size, got)
				}
			}
		}
	}
	for _, g := range graphsToLead(10, 7) {
		checkLeads(t, g, doublingPath(60, rowOf))
		checkLeads(t, g, doublingPath(60, altOf))
		checkLeadsBack(t, g, doublingPath(60, rowOf))
	}
	checkPathOk(t, "60 rows", doublingPath(60, rowOf), true)
	checkPathOk(t, "61 rows", doublingPath(61, rowOf), false)
	checkTurnedPath(t, doublingPath(60, rowOf))
	checkStepOnly(t, "60 rows", doublingPath(60, rowOf), false)
}

func TestManyKids(t *testing.T) {
	for _, count := range []int{2, 3, 60, 61, 1000, 50000} {
		kids := make([]int, count)
		for i := range kids {
			kids[i] = i % 7 / 6 // each seventh is b
		}
		p := path(stepOf('a'), stepOf('b'), rowOf(kids...), altOf(kids...))
		g := ringGraph(5)
		for v := range g.Size {
			g.Edges = append(g.Edges, edge(v, 'b', v))
		}
		slices.SortFunc(g.Edges, func(x, y impl.Edge) int {
			return slices.Compare([]int{x.From, int(x.Label)}, []int{y.From, int(y.Label)})
		})
		steps := count - (count / 7)
		if got := impl.PathEnds(g, partOf(p, 2), 3); !slices.Equal(got, []int{(3 + steps) % 5}) {
			t.Errorf("a row of %d kids leads to %v; not %d", count, got, (3+steps)%5)
		}
		if got, want := impl.PathEnds(g, p, 3), endsByHand(g, p, 3); !slices.Equal(got, want) {
			t.Errorf("an alternative of %d kids leads to %v; not %v", count, got, want)
		}
		checkPathOk(t, "many kids", p, true)
		if back := impl.TurnedPath(p); !samePath(back, turnedPathByHand(p)) {
			t.Errorf("TurnedPath of %d kids is wrong", count)
		}
	}
}

func TestPiecesThatAreNotComeTo(t *testing.T) {
	g := graph(3, edge(0, 'a', 1), edge(1, 'b', 2))
	p := path(stepOf('b'), starOf(0), stepOf('a'))
	if got := impl.PathEnds(g, p, 0); !slices.Equal(got, []int{1}) {
		t.Errorf("the last piece is not the whole: %v", got)
	}
	checkLeads(t, g, p)
	checkLeadsBack(t, g, p)
}

func TestPathsOfWrongGraphs(t *testing.T) {
	for name, g := range wrongGraphs() {
		for _, text := range []string{"a", "a*", "a?", "b+", "(a|b)*", "ab"} {
			p := mustRead(t, text)
			for _, from := range []int{math.MinInt, -1, 0, 1, 2, 3, 11, 12, 13, 16, 63, 64, math.MaxInt - 1, math.MaxInt} {
				if got := impl.PathEnds(g, p, from); len(got) != 0 {
					t.Errorf("PathEnds of a graph with %s, %q, %d = %v; not nothing", name, text, from, got)
				}
			}
			if got := impl.PathPairs(g, p); len(got) != 0 {
				t.Errorf("PathPairs of a graph with %s, %q = %v; not nothing", name, text, got)
			}
		}
	}
}

func TestWrongPathsLeadNowhere(t *testing.T) {
	for name, p := range wrongPaths() {
		for _, g := range append(rightGraphs(), wrongGraphs()["a Size one above"]) {
			for _, from := range []int{-1, 0, 1, g.Size - 1, g.Size, math.MaxInt} {
				if got := impl.PathEnds(g, p, from); len(got) != 0 {
					t.Errorf("PathEnds of %s from %d = %v; not nothing", name, from, got)
				}
			}
			checkLeads(t, g, p)
		}
		checkTurnedPath(t, p)
		if got := impl.TurnedPath(p); !samePath(got, p) {
			t.Errorf("TurnedPath of %s = %v; not as it is", name, got)
		}
		checkStepOnly(t, name, p, false)
	}
}

func TestFromThatIsNoVertex(t *testing.T) {
	for _, g := range graphsToLead(5, 13) {
		for _, text := range []string{"a", "a*", "a?", "(a|b|c|d)*"} {
			p := mustRead(t, text)
			for _, from := range []int{math.MinInt, -16, -1, g.Size, g.Size + 1, g.Size + 16, g.Size + 64, math.MaxInt} {
				if got := impl.PathEnds(g, p, from); len(got) != 0 {
					t.Errorf("PathEnds(%v, %q, %d) = %v; not nothing", g, text, from, got)
				}
			}
			if text == "a*" {
				for _, from := range []int{0, g.Size - 1} {
					if got := impl.PathEnds(g, p, from); !slices.Contains(got, from) {
						t.Errorf("PathEnds(%v, %q, %d) = %v; without %d", g, text, from, got, from)
					}
				}
			}
		}
	}
}

func TestStepOnly(t *testing.T) {
	for _, label := range []byte("abcd") {
		checkStepOnly(t, string(rune(label)), path(stepOf(label)), true)
	}
	for _, text := range rightPathTexts {
		p := mustRead(t, text)
		checkStepOnly(t, text, p, strings.Trim(text, "()") == "a" || strings.Contains("bcd", text) && len(text) == 1)
	}
	checkStepOnly(t, "two steps", path(stepOf('a'), stepOf('b')), false)
	checkStepOnly(t, "a step behind a star", path(stepOf('a'), starOf(0), stepOf('b')), false)
	for _, label := range []byte{0, 'a' - 1, 'd' + 1, 'A', 255} {
		checkStepOnly(t, "a wrong step", path(stepOf(label)), false)
	}
}

func TestTurnedPathThatIsKnown(t *testing.T) {
	a, b, c, d := stepOf('a'), stepOf('b'), stepOf('c'), stepOf('d')
	for text, want := range map[string]impl.Path{
		"a":         path(a),
		"ab":        path(a, b, rowOf(1, 0)),
		"abcd":      path(a, b, c, d, rowOf(3, 2, 1, 0)),
		"a|b":       path(a, b, altOf(0, 1)),
		"a|bc":      path(a, b, c, rowOf(2, 1), altOf(0, 3)),
		"ab*":       path(a, b, starOf(1), rowOf(2, 0)),
		"(ab)*":     path(a, b, rowOf(1, 0), starOf(2)),
		"(ab)(cd)+": path(a, b, rowOf(1, 0), c, d, rowOf(4, 3), plusOf(5), rowOf(6, 2)),
		"a?":        path(a, optOf(0)),
	} {
		p, ok := impl.ReadPath(text)
		if got := impl.TurnedPath(p); !ok || !samePath(got, want) {
			t.Errorf("TurnedPath of %q = %v; not %v", text, got, want)
		}
	}
}

func TestTurnedPath(t *testing.T) {
	for _, text := range rightPathTexts {
		checkTurnedPath(t, mustRead(t, text))
	}
	for _, p := range drawnPaths(1000, 59) {
		checkTurnedPath(t, p)
	}
}

func TestThePathThatLeadsBackLeadsBack(t *testing.T) {
	checkManyPaths(t, checkLeadsBack)
}

func TestKidsInOneMemory(t *testing.T) {
	room := []int{0, 1, 2, 0, 1}
	p := path(stepOf('a'), stepOf('b'), stepOf('c'), impl.Piece{Op: impl.PaRow, Kids: room[:3]}, impl.Piece{Op: impl.PaRow, Kids: room[1:4]}, impl.Piece{Op: impl.PaAlt, Kids: room[:2]}, rowOf(3, 4, 5))
	got := impl.TurnedPath(p)
	want := path(stepOf('a'), stepOf('b'), stepOf('c'), rowOf(2, 1, 0), rowOf(0, 2, 1), altOf(0, 1), rowOf(5, 4, 3))
	if !samePath(got, want) || !slices.Equal(room, []int{0, 1, 2, 0, 1}) {
		t.Errorf("TurnedPath of kids in one memory = %v; the memory is %v", got, room)
	}
	checkApart(t, "TurnedPath", spansOfPath(got), append(spansOfPath(p), spanOfRow(room)))
	checkLeads(t, ringGraph(4), p)
}
