package tests

import (
	"fmt"
	"math"
	"regexp"
	"slices"
	"strings"
	"testing"
	"unsafe"

	"loop.example/g00250/impl"
)

func arc(from int, label byte, to int) impl.Arc { return impl.Arc{From: from, Label: label, To: to} }

// nfa has a state for each sign of ends, and those of a `!` are Ends.
func nfa(ends string, arcs ...impl.Arc) impl.Nfa {
	a := impl.Nfa{States: len(ends), Arcs: arcs}
	for i := range len(ends) {
		a.Ends = append(a.Ends, ends[i] == '!')
	}
	return a
}

// endsAlone are this many states, of which the last one is an end.
func endsAlone(states int) string { return strings.Repeat(".", states-1) + "!" }

// wordNfa takes this word and no other one.
func wordNfa(word string) impl.Nfa {
	a := nfa(endsAlone(len(word) + 1))
	for i := range len(word) {
		a.Arcs = append(a.Arcs, arc(i, word[i], i+1))
	}
	return a
}

// countedArc is the arc that stands at this place among all of MaxStates states.
func countedArc(n int) impl.Arc { return arc(n/96, "abcd"[n/24%4], n%24) }

func sameNfa(a, b impl.Nfa) bool {
	return a.States == b.States && slices.Equal(a.Arcs, b.Arcs) && slices.Equal(a.Ends, b.Ends)
}

func isNoNfa(a impl.Nfa) bool { return a.States == 0 && len(a.Arcs) == 0 && len(a.Ends) == 0 }

func arcsByHand(a, b impl.Arc) int {
	return slices.Compare([]int{a.From, int(a.Label), a.To}, []int{b.From, int(b.Label), b.To})
}

// rightNfa is the chapter's sentence, clause by clause.
func rightNfa(a impl.Nfa) bool {
	right := a.States >= 1 && a.States <= 24 && len(a.Ends) == a.States
	for i, x := range a.Arcs {
		right = right && x.From >= 0 && x.From <= a.States-1 && x.To >= 0 && x.To <= a.States-1
		right = right && (x.Label == 97 || x.Label == 98 || x.Label == 99 || x.Label == 100)
		right = right && (i == 0 || arcsByHand(a.Arcs[i-1], x) < 0)
	}
	return right
}

// roomyNfa has spare room behind its lists, with right things in it.
func roomyNfa(a impl.Nfa) impl.Nfa {
	arcs := append(make([]impl.Arc, 0, len(a.Arcs)+3), a.Arcs...)
	for i := range arcs[len(arcs):cap(arcs)] {
		arcs[:cap(arcs)][len(arcs)+i] = arc(0, 'd', i)
	}
	ends := append(make([]bool, 0, len(a.Ends)+3), a.Ends...)
	for i := range ends[len(ends):cap(ends)] {
		ends[:cap(ends)][len(ends)+i] = i%2 == 0
	}
	return impl.Nfa{States: a.States, Arcs: arcs, Ends: ends}
}

// wholeNfa tells all of an automaton, the places of its lists and the room behind them too.
func wholeNfa(a impl.Nfa) string {
	return fmt.Sprintf("%d %p %d %v %p %d %v", a.States, a.Arcs, len(a.Arcs), a.Arcs[:cap(a.Arcs)], a.Ends, len(a.Ends), a.Ends[:cap(a.Ends)])
}

func spansOfNfa(a impl.Nfa) []span {
	arcs := uintptr(unsafe.Pointer(unsafe.SliceData(a.Arcs)))
	ends := uintptr(unsafe.Pointer(unsafe.SliceData(a.Ends)))
	return []span{{arcs, arcs + uintptr(cap(a.Arcs))*unsafe.Sizeof(impl.Arc{})}, {ends, ends + uintptr(cap(a.Ends))}}
}

type wordSet map[string]struct{}

func (s wordSet) has(word string) bool {
	_, there := s[word]
	return there
}

// takenByHand holds the words of at most so many bytes that a path takes, made of those that its pieces take.
func takenByHand(p impl.Path, most int) wordSet {
	all := []wordSet{}
	for _, x := range p.Pieces {
		all = append(all, wordsOfPiece(x, all, most))
	}
	return all[len(all)-1]
}

func wordsOfPiece(x impl.Piece, ahead []wordSet, most int) wordSet {
	out := wordSet{}
	switch x.Op {
	case impl.PaStep:
		out[string(rune(x.Label))] = struct{}{}
	case impl.PaRow:
		out[""] = struct{}{}
		for _, kid := range x.Kids {
			out = wordsBehind(out, ahead[kid], most)
		}
	default:
		for _, kid := range x.Kids {
			for word := range ahead[kid] {
				out[word] = struct{}{}
			}
		}
	}
	for again := x.Op == impl.PaStar || x.Op == impl.PaPlus; again; {
		count := len(out)
		for word := range wordsBehind(out, ahead[x.Kids[0]], most) {
			out[word] = struct{}{}
		}
		again = len(out) > count
	}
	if x.Op == impl.PaStar || x.Op == impl.PaOpt {
		out[""] = struct{}{}
	}
	return out
}

func wordsBehind(a, b wordSet, most int) wordSet {
	byLength := make([][]string, most+1)
	for word := range b {
		byLength[len(word)] = append(byLength[len(word)], word)
	}
	out := wordSet{}
	for first := range a {
		for _, list := range byLength[:most+1-len(first)] {
			for _, second := range list {
				out[first+second] = struct{}{}
			}
		}
	}
	return out
}

// stepsByHand is how often a step is come to, or a thousand.
func stepsByHand(p impl.Path) int {
	counts := []int{}
	for _, x := range p.Pieces {
		count := 0
		if x.Op == impl.PaStep {
			count = 1
		}
		for _, kid := range x.Kids {
			count = min(1000, count+counts[kid])
		}
		counts = append(counts, count)
	}
	return counts[len(counts)-1]
}

// unfolded has a piece for each time that one is come to, and each of its steps has a Label of its own (A, B ..); and what their Labels were.
func unfolded(p impl.Path) (impl.Path, string) {
	out, labels := impl.Path{}, ""
	var unfold func(place int) int
	unfold = func(place int) int {
		x := impl.Piece{Op: p.Pieces[place].Op}
		for _, kid := range p.Pieces[place].Kids {
			x.Kids = append(x.Kids, unfold(kid))
		}
		if x.Op == impl.PaStep {
			x.Label = byte('A' + len(labels))
			labels += string(rune(p.Pieces[place].Label))
		}
		out.Pieces = append(out.Pieces, x)
		return len(out.Pieces) - 1
	}
	unfold(len(p.Pieces) - 1)
	return out, labels
}

// nfaByHand is made of the words in which each step has a name of its own: what may stand behind what is then to be seen in them, if they are twice as long as there are steps.
func nfaByHand(p impl.Path) impl.Nfa {
	named, labels := unfolded(p)
	a := nfa(strings.Repeat(".", 1+len(labels)))
	arcs := map[impl.Arc]struct{}{}
	for word := range takenByHand(named, 2*len(labels)) {
		last := 0
		for i := range len(word) {
			next := 1 + int(word[i]-'A')
			arcs[arc(last, labels[next-1], next)] = struct{}{}
			last = next
		}
		a.Ends[last] = true
	}
	for x := range arcs {
		a.Arcs = append(a.Arcs, x)
	}
	slices.SortFunc(a.Arcs, arcsByHand)
	return a
}

// statesByHand are those to which a word leads from these ones, ascending.
func statesByHand(a impl.Nfa, now []int, word string) []int {
	for i := range len(word) {
		next := []int{}
		for state := range a.States {
			if slices.ContainsFunc(a.Arcs, func(x impl.Arc) bool { return x.To == state && x.Label == word[i] && slices.Contains(now, x.From) }) {
				next = append(next, state)
			}
		}
		now = next
	}
	return now
}

func endByHand(a impl.Nfa, states []int) bool {
	return slices.ContainsFunc(states, func(state int) bool { return a.Ends[state] })
}

func nfaTakesByHand(a impl.Nfa, word string) bool {
	return rightNfa(a) && len(word) <= 12 && endByHand(a, statesByHand(a, []int{0}, word))
}

// nfaPairsByHand goes from each vertex, in state 0, to each vertex in each state, one arc and one edge at a time.
func nfaPairsByHand(g impl.Graph, a impl.Nfa) [][]int {
	out := [][]int{}
	if !rightGraph(g) || !rightNfa(a) {
		return out
	}
	for from := range g.Size {
		list := [][2]int{{from, 0}}
		for at := 0; at < len(list); at++ {
			for _, e := range g.Edges {
				for _, x := range a.Arcs {
					far := [2]int{e.To, x.To}
					if e.Label == x.Label && list[at] == [2]int{e.From, x.From} && !slices.Contains(list, far) {
						list = append(list, far)
					}
				}
			}
		}
		for to := range g.Size {
			if slices.ContainsFunc(list, func(l [2]int) bool { return l[0] == to && a.Ends[l[1]] }) {
				out = append(out, []int{from, to})
			}
		}
	}
	return out
}

// dfaByHand goes on when there are too many states, up to a hundred, so that it tells how many there would be.
func dfaByHand(a impl.Nfa) impl.Nfa {
	sets := [][]int{{0}}
	out := impl.Nfa{}
	for from := 0; from < len(sets) && from < 100; from++ {
		out.States = from + 1
		out.Ends = append(out.Ends, endByHand(a, sets[from]))
		for _, label := range []byte("abcd") {
			next := statesByHand(a, sets[from], string(rune(label)))
			if len(next) == 0 {
				continue
			}
			to := slices.IndexFunc(sets, func(s []int) bool { return slices.Equal(s, next) })
			if to < 0 {
				to = len(sets)
				sets = append(sets, next)
			}
			out.Arcs = append(out.Arcs, arc(from, label, to))
		}
	}
	return out
}

// sameWordsByHand asks each word of at most 6 bytes.
func sameWordsByHand(a, b impl.Nfa) bool {
	if !rightNfa(a) || !rightNfa(b) {
		return false
	}
	for _, word := range wordsByHand("abcd", 6) {
		if nfaTakesByHand(a, word) != nfaTakesByHand(b, word) {
			return false
		}
	}
	return true
}

// drawnNfas are right ones of up to so many states: some have states that are not come to, Arcs back to state 0, or no Ends.
func drawnNfas(count, most int, seed uint32) []impl.Nfa {
	d := drawing{seed}
	out := []impl.Nfa{}
	for range count {
		a := nfa(strings.Repeat(".", 1+d.below(most)))
		labels := 1 + d.below(4)
		for range d.below(3*a.States + 1) {
			a.Arcs = append(a.Arcs, arc(d.below(a.States), byte('a'+d.below(labels)), d.below(a.States)))
		}
		slices.SortFunc(a.Arcs, arcsByHand)
		a.Arcs = slices.Compact(a.Arcs)
		few := 1 + d.below(4)
		for state := range a.Ends {
			a.Ends[state] = d.below(few) == 0
		}
		out = append(out, a)
	}
	return out
}

func rightNfas() []impl.Nfa {
	all := nfa(strings.Repeat(".!", 12))
	for n := range 24 * 96 {
		all.Arcs = append(all.Arcs, countedArc(n))
	}
	return []impl.Nfa{
		nfa("."), nfa("!"), nfa(".."), nfa("!."), nfa(".!"), nfa("!", arc(0, 'a', 0)), nfa(".", arc(0, 'd', 0)), {States: 1, Arcs: []impl.Arc{}, Ends: []bool{true}},
		nfa("!", arc(0, 'a', 0), arc(0, 'b', 0), arc(0, 'c', 0), arc(0, 'd', 0)), nfa(".!", arc(0, 'a', 0), arc(0, 'a', 1), arc(0, 'b', 0)),
		nfa("..!", arc(0, 'a', 1), arc(0, 'a', 2), arc(1, 'b', 0), arc(1, 'b', 1), arc(2, 'd', 0)), nfa("!..", arc(0, 'a', 1), arc(1, 'a', 2), arc(2, 'a', 0)),
		nfa("..!", arc(1, 'a', 2), arc(2, 'a', 1)), nfa(".!", arc(0, 'a', 1), arc(0, 'b', 1), arc(0, 'c', 1), arc(0, 'd', 1)),
		nfa(strings.Repeat("!", 24)), nfa(endsAlone(24), arc(0, 'a', 0), arc(0, 'a', 23), arc(0, 'd', 23), arc(23, 'a', 0), arc(23, 'd', 23)),
		wordNfa(""), wordNfa("a"), wordNfa("abcdabcdabcd"), wordNfa(strings.Repeat("dcba", 5) + "ddd"), all,
	}
}

// wrongNfas have one fault each, all else being right.
func wrongNfas() map[string]impl.Nfa {
	withEnds := func(states, ends int, arcs ...impl.Arc) impl.Nfa {
		return impl.Nfa{States: states, Arcs: arcs, Ends: slices.Repeat([]bool{true}, ends)}
	}
	return map[string]impl.Nfa{
		"nothing":                      {},
		"no States but an End":         withEnds(0, 1),
		"no States but an Arc":         withEnds(0, 0, arc(0, 'a', 0)),
		"States below 0":               withEnds(-1, 0),
		"States below 0 and an End":    withEnds(-1, 1),
		"States one above":             withEnds(25, 25),
		"States one above and Arcs":    withEnds(25, 25, arc(0, 'a', 1), arc(1, 'b', 24)),
		"many States":                  withEnds(1000, 1000, arc(0, 'a', 999)),
		"great States":                 withEnds(math.MaxInt, 1),
		"least States":                 withEnds(math.MinInt, 0),
		"no Ends":                      withEnds(1, 0),
		"no Ends of 24":                withEnds(24, 0),
		"Ends one fewer":               withEnds(3, 2, arc(0, 'a', 1)),
		"Ends one more":                withEnds(3, 4, arc(0, 'a', 1)),
		"Ends one more than one":       withEnds(1, 2),
		"Ends one fewer than 24":       withEnds(24, 23),
		"Ends one more than 24":        withEnds(24, 25),
		"an Arc twice":                 withEnds(3, 3, arc(0, 'a', 1), arc(0, 'a', 1)),
		"an Arc twice, then more":      withEnds(3, 3, arc(0, 'a', 1), arc(0, 'a', 1), arc(1, 'b', 0)),
		"the last Arc twice":           withEnds(3, 3, arc(0, 'a', 1), arc(2, 'd', 2), arc(2, 'd', 2)),
		"an Arc twice, apart":          withEnds(3, 3, arc(0, 'a', 1), arc(0, 'a', 2), arc(0, 'a', 1)),
		"From out of order":            withEnds(3, 3, arc(1, 'a', 0), arc(0, 'a', 0)),
		"Label out of order":           withEnds(3, 3, arc(1, 'b', 0), arc(1, 'a', 2)),
		"To out of order":              withEnds(3, 3, arc(0, 'a', 2), arc(0, 'a', 1)),
		"out of order at the end":      withEnds(3, 3, arc(0, 'a', 0), arc(2, 'a', 0), arc(1, 'd', 2)),
		"Label ahead of From":          withEnds(3, 3, arc(1, 'a', 0), arc(0, 'b', 0)),
		"To ahead of Label":            withEnds(3, 3, arc(0, 'b', 0), arc(0, 'a', 1)),
		"a From of States":             withEnds(3, 3, arc(0, 'a', 0), arc(3, 'a', 0)),
		"a From below 0":               withEnds(3, 3, arc(-1, 'a', 0), arc(0, 'a', 0)),
		"a great From":                 withEnds(3, 3, arc(math.MaxInt, 'a', 0)),
		"a least From":                 withEnds(3, 3, arc(math.MinInt, 'a', 0)),
		"a To of States":               withEnds(3, 3, arc(0, 'a', 0), arc(0, 'a', 3)),
		"a To below 0":                 withEnds(3, 3, arc(0, 'a', -1), arc(0, 'a', 0)),
		"a great To":                   withEnds(3, 3, arc(0, 'a', math.MaxInt)),
		"a least To":                   withEnds(3, 3, arc(0, 'a', math.MinInt)),
		"a From of MaxStates":          withEnds(24, 24, arc(24, 'a', 0)),
		"a To of MaxStates":            withEnds(24, 24, arc(0, 'a', 24)),
		"a state 1 of one":             withEnds(1, 1, arc(0, 'a', 1)),
		"the Label ahead of a":         withEnds(3, 3, arc(0, 'a'-1, 1)),
		"the Label behind d":           withEnds(3, 3, arc(0, 'd'+1, 1)),
		"a Label of 0":                 withEnds(3, 3, arc(0, 0, 1)),
		"a Label of 255":               withEnds(3, 3, arc(0, 255, 1)),
		"a Label A":                    withEnds(3, 3, arc(0, 'A', 1)),
		"a fault in an Arc at the end": withEnds(24, 24, append(slices.Clone(rightNfas()[len(rightNfas())-1].Arcs), arc(23, 'd', 24))...),
		"a fault in what is no use":    withEnds(3, 3, arc(0, 'a', 0), arc(2, 'e', 2)),
	}
}

// someWords are words that come near to what the automata here take, of the limit and one more too, and some that are none.
var someWords = []string{
	"", "a", "b", "c", "d", "aa", "ab", "ba", "bb", "dd", "aab", "aba", "baa", "abb", "bab", "abc", "abcd", "dcba", "aaaa", "abab", "aabaa", "bbbbb", "abcdab", "aaaaaaa", "abcdabcd",
	"abcdabcdabc", "abcdabcdabcd", "abcdabcdabcda", "aaaaaaaaaaaa", "aaaaaaaaaaaaa", "babababababa", "bababababab", "dddddddddddd", "e", "ae", "ea", "A", "a ", " ", "\x00", "\xff", "`", "a\x00", "a|b", "a*", "(a)", "é",
}

func isWord(word string) bool { return len(word) <= 12 && strings.Trim(word, "abcd") == "" }

// checkWords asks of all words of at most so many bytes that the path, its automaton, and the one that goes one way take just the same.
func checkWords(t *testing.T, p impl.Path, most int) {
	t.Helper()
	a, ok := impl.NfaOf(p)
	d, dOk := impl.DfaOf(a)
	if ok != (stepsByHand(p) <= 23) || ok && !rightNfa(a) {
		t.Fatalf("NfaOf(%v) = %v, %v", p, a, ok)
	}
	if dOk && !impl.OneWay(d) {
		t.Fatalf("DfaOf of the automaton of %v does not go one way: %v", p, d)
	}
	taken := takenByHand(p, most)
	for _, word := range wordsByHand("abcd", most) {
		want := taken.has(word)
		if got := impl.PathTakes(p, word); got != want {
			t.Fatalf("PathTakes(%v, %q) = %v", p, word, got)
		}
		if got := impl.NfaTakes(a, word); ok && got != want {
			t.Fatalf("of %v NfaTakes(%v, %q) = %v", p, a, word, got)
		}
		if got := impl.NfaTakes(d, word); dOk && got != want {
			t.Fatalf("of %v, one way, NfaTakes(%v, %q) = %v", p, d, word, got)
		}
	}
}

// checkNfaOf also asks that nothing is written into what is given, and that the answer is new memory.
func checkNfaOf(t *testing.T, p impl.Path, want impl.Nfa) {
	t.Helper()
	name := fmt.Sprintf("NfaOf(%v)", p)
	p = roomyPath(p)
	before := wholePath(p)
	got, ok := impl.NfaOf(p)
	if !ok || !sameNfa(got, want) {
		t.Fatalf("%s = %v, %v; not %v", name, got, ok, want)
	}
	if !rightNfa(got) || !impl.NfaOk(got) {
		t.Fatalf("%s = %v, which is not right", name, got)
	}
	again, _ := impl.NfaOf(p)
	checkApart(t, name, append(spansOfNfa(got), spansOfNfa(again)...), spansOfPath(p))
	if wholePath(p) != before {
		t.Fatalf("%s wrote into what was given", name)
	}
}

func checkNoNfaOf(t *testing.T, name string, p impl.Path) {
	t.Helper()
	if got, ok := impl.NfaOf(p); ok || !isNoNfa(got) {
		t.Errorf("NfaOf of %s = %v, %v; not refused", name, got, ok)
	}
}

func checkPathTakes(t *testing.T, p impl.Path, word string, want bool) {
	t.Helper()
	long := roomyPath(p)
	before := wholePath(long)
	if got := impl.PathTakes(long, word); got != want {
		t.Errorf("PathTakes(%v, %q) = %v; not %v", p, word, got, want)
	}
	if wholePath(long) != before {
		t.Errorf("PathTakes(%v, %q) wrote into what was given", p, word)
	}
}

func checkNfaTakes(t *testing.T, a impl.Nfa, word string) {
	t.Helper()
	want := nfaTakesByHand(a, word)
	wide := roomyNfa(a)
	before := wholeNfa(wide)
	if got := impl.NfaTakes(wide, word); got != want {
		t.Fatalf("NfaTakes(%v, %q) = %v; not %v", a, word, got, want)
	}
	if wholeNfa(wide) != before {
		t.Fatalf("NfaTakes(%v, %q) wrote into what was given", a, word)
	}
}

func checkNfaPairs(t *testing.T, g impl.Graph, a impl.Nfa) {
	t.Helper()
	name := fmt.Sprintf("NfaPairs(%v, %v)", g, a)
	want := nfaPairsByHand(g, a)
	g, a = roomyGraph(g), roomyNfa(a)
	before := wholeGraph(g) + wholeNfa(a)
	got := impl.NfaPairs(g, a)
	if !slices.EqualFunc(got, want, slices.Equal[[]int]) {
		t.Fatalf("%s = %v; not %v", name, got, want)
	}
	if wholeGraph(g)+wholeNfa(a) != before {
		t.Fatalf("%s wrote into what was given", name)
	}
	checkApart(t, name, append(spansOfPairs(got), spansOfPairs(impl.NfaPairs(g, a))...), append(spansOfGraph(g), spansOfNfa(a)...))
}

func checkDfaOf(t *testing.T, a impl.Nfa) {
	t.Helper()
	name := fmt.Sprintf("DfaOf(%v)", a)
	want, right := impl.Nfa{}, false
	if rightNfa(a) {
		want, right = dfaByHand(a), true
	}
	if want.States > 24 {
		want, right = impl.Nfa{}, false
	}
	a = roomyNfa(a)
	before := wholeNfa(a)
	got, ok := impl.DfaOf(a)
	if ok != right || !sameNfa(got, want) {
		t.Fatalf("%s = %v, %v; not %v, %v", name, got, ok, want, right)
	}
	if wholeNfa(a) != before {
		t.Fatalf("%s wrote into what was given", name)
	}
	again, _ := impl.DfaOf(a)
	checkApart(t, name, append(spansOfNfa(got), spansOfNfa(again)...), spansOfNfa(a))
	if ok && (!rightNfa(got) || !impl.NfaOk(got) || !impl.OneWay(got)) {
		t.Fatalf("%s = %v, which is not right, or does not go one way", name, got)
	}
}

func checkOneWay(t *testing.T, a impl.Nfa) {
	t.Helper()
	want := rightNfa(a)
	ways := map[[2]int]int{}
	for _, x := range a.Arcs {
		ways[[2]int{x.From, int(x.Label)}]++
		want = want && ways[[2]int{x.From, int(x.Label)}] == 1
	}
	wide := roomyNfa(a)
	before := wholeNfa(wide)
	if got := impl.OneWay(wide); got != want {
		t.Errorf("OneWay(%v) = %v; not %v", a, got, want)
	}
	if wholeNfa(wide) != before {
		t.Errorf("OneWay(%v) wrote into what was given", a)
	}
}

func checkSameWords(t *testing.T, a, b impl.Nfa, want bool) {
	t.Helper()
	wide, far := roomyNfa(a), roomyNfa(b)
	before := wholeNfa(wide) + wholeNfa(far)
	if got, back := impl.SameWords(wide, far), impl.SameWords(far, wide); got != want || back != want {
		t.Fatalf("SameWords(%v, %v) = %v, and the other way round %v; not %v", a, b, got, back, want)
	}
	if wholeNfa(wide)+wholeNfa(far) != before {
		t.Fatalf("SameWords(%v, %v) wrote into what was given", a, b)
	}
}

func checkNfaOk(t *testing.T, name string, a impl.Nfa, want bool) {
	t.Helper()
	if rightNfa(a) != want {
		t.Fatalf("%s, %v: the test itself is wrong", name, a)
	}
	a = roomyNfa(a)
	before := wholeNfa(a)
	if got := impl.NfaOk(a); got != want {
		t.Errorf("NfaOk of %s, %v = %v; not %v", name, a, got, want)
	}
	if wholeNfa(a) != before {
		t.Errorf("NfaOk of %s wrote into what was given", name)
	}
}

func TestConstantsOfAutomata(t *testing.T) {
	if impl.MaxStates != 24 || impl.MaxWord != 12 {
		t.Error("a limit of the automata is not the document's")
	}
}

func TestNfaOk(t *testing.T) {
	for _, a := range rightNfas() {
		checkNfaOk(t, "a right one", a, true)
	}
	for _, a := range drawnNfas(500, 24, 3) {
		checkNfaOk(t, "a drawn one", a, true)
	}
	for name, a := range wrongNfas() {
		checkNfaOk(t, name, a, false)
	}
}

func TestNfaOkOfEachCountOfStatesAndEnds(t *testing.T) {
	for states := -2; states <= 28; states++ {
		for ends := range 29 {
			a := impl.Nfa{States: states, Ends: make([]bool, ends)}
			checkNfaOk(t, "no arcs", a, states >= 1 && states <= 24 && ends == states)
			a.Arcs = []impl.Arc{arc(0, 'a', states-1), arc(states-1, 'a', 0)}
			if states > 1 {
				checkNfaOk(t, "two arcs", a, states <= 24 && ends == states)
			}
		}
	}
}

func TestNfaOkOfEachArc(t *testing.T) {
	for _, states := range []int{1, 2, 5, 23, 24} {
		for _, from := range []int{math.MinInt, -1, 0, 1, states - 1, states, states + 1, math.MaxInt} {
			for _, to := range []int{math.MinInt, -1, 0, 1, states - 1, states, states + 1, math.MaxInt} {
				for _, label := range []byte{0, 'A', 'a' - 1, 'a', 'b', 'c', 'd', 'd' + 1, 255} {
					inside := from >= 0 && from < states && to >= 0 && to < states
					checkNfaOk(t, "one arc", nfa(endsAlone(states), arc(from, label, to)), inside && strings.IndexByte("abcd", label) >= 0)
				}
			}
		}
	}
}

func TestNfaOkOfTwoArcs(t *testing.T) {
	some := []impl.Arc{arc(0, 'a', 0), arc(0, 'a', 1), arc(0, 'b', 0), arc(0, 'b', 2), arc(1, 'a', 0), arc(1, 'a', 2), arc(1, 'd', 1), arc(2, 'a', 1), arc(2, 'c', 0)}
	for i, first := range some {
		for k, second := range some {
			checkNfaOk(t, "two arcs", nfa("!..", first, second), i < k)
			checkNfaOk(t, "two arcs and one more", nfa("!..", first, second, arc(2, 'd', 2)), i < k)
		}
	}
}

func TestNfaOfThatIsKnown(t *testing.T) {
	for text, want := range map[string]impl.Nfa{
		"a":        nfa(".!", arc(0, 'a', 1)),
		"d":        nfa(".!", arc(0, 'd', 1)),
		"ab":       nfa("..!", arc(0, 'a', 1), arc(1, 'b', 2)),
		"ba":       nfa("..!", arc(0, 'b', 1), arc(1, 'a', 2)),
		"abc":      nfa("...!", arc(0, 'a', 1), arc(1, 'b', 2), arc(2, 'c', 3)),
		"a|b":      nfa(".!!", arc(0, 'a', 1), arc(0, 'b', 2)),
		"b|a":      nfa(".!!", arc(0, 'a', 2), arc(0, 'b', 1)),
		"a|a":      nfa(".!!", arc(0, 'a', 1), arc(0, 'a', 2)),
		"d|c|a":    nfa(".!!!", arc(0, 'a', 3), arc(0, 'c', 2), arc(0, 'd', 1)),
		"a*":       nfa("!!", arc(0, 'a', 1), arc(1, 'a', 1)),
		"a+":       nfa(".!", arc(0, 'a', 1), arc(1, 'a', 1)),
		"a?":       nfa("!!", arc(0, 'a', 1)),
		"a**":      nfa("!!", arc(0, 'a', 1), arc(1, 'a', 1)),
		"a*?":      nfa("!!", arc(0, 'a', 1), arc(1, 'a', 1)),
		"a?+":      nfa("!!", arc(0, 'a', 1), arc(1, 'a', 1)),
		"a++":      nfa(".!", arc(0, 'a', 1), arc(1, 'a', 1)),
		"a+?":      nfa("!!", arc(0, 'a', 1), arc(1, 'a', 1)),
		"a??":      nfa("!!", arc(0, 'a', 1)),
		"a?b":      nfa("..!", arc(0, 'a', 1), arc(0, 'b', 2), arc(1, 'b', 2)),
		"ab?":      nfa(".!!", arc(0, 'a', 1), arc(1, 'b', 2)),
		"a?b?":     nfa("!!!", arc(0, 'a', 1), arc(0, 'b', 2), arc(1, 'b', 2)),
		"b?a?":     nfa("!!!", arc(0, 'a', 2), arc(0, 'b', 1), arc(1, 'a', 2)),
		"ab?c":     nfa("...!", arc(0, 'a', 1), arc(1, 'b', 2), arc(1, 'c', 3), arc(2, 'c', 3)),
		"ab*c":     nfa("...!", arc(0, 'a', 1), arc(1, 'b', 2), arc(1, 'c', 3), arc(2, 'b', 2), arc(2, 'c', 3)),
		"ab?c?d?":  nfa(".!!!!", arc(0, 'a', 1), arc(1, 'b', 2), arc(1, 'c', 3), arc(1, 'd', 4), arc(2, 'c', 3), arc(2, 'd', 4), arc(3, 'd', 4)),
		"(ab)*":    nfa("!.!", arc(0, 'a', 1), arc(1, 'b', 2), arc(2, 'a', 1)),
		"(ab)+":    nfa("..!", arc(0, 'a', 1), arc(1, 'b', 2), arc(2, 'a', 1)),
		"(ab)?":    nfa("!.!", arc(0, 'a', 1), arc(1, 'b', 2)),
		"(a|b)*":   nfa("!!!", arc(0, 'a', 1), arc(0, 'b', 2), arc(1, 'a', 1), arc(1, 'b', 2), arc(2, 'a', 1), arc(2, 'b', 2)),
		"(a*b*)*":  nfa("!!!", arc(0, 'a', 1), arc(0, 'b', 2), arc(1, 'a', 1), arc(1, 'b', 2), arc(2, 'a', 1), arc(2, 'b', 2)),
		"(a?b)+":   nfa("..!", arc(0, 'a', 1), arc(0, 'b', 2), arc(1, 'b', 2), arc(2, 'a', 1), arc(2, 'b', 2)),
		"(a|b)c":   nfa("...!", arc(0, 'a', 1), arc(0, 'b', 2), arc(1, 'c', 3), arc(2, 'c', 3)),
		"a(b|c)":   nfa("..!!", arc(0, 'a', 1), arc(1, 'b', 2), arc(1, 'c', 3)),
		"a(a|b)*":  nfa(".!!!", arc(0, 'a', 1), arc(1, 'a', 2), arc(1, 'b', 3), arc(2, 'a', 2), arc(2, 'b', 3), arc(3, 'a', 2), arc(3, 'b', 3)),
		"(a|b*)c?": nfa("!!!!", arc(0, 'a', 1), arc(0, 'b', 2), arc(0, 'c', 3), arc(1, 'c', 3), arc(2, 'b', 2), arc(2, 'c', 3)),
		"((a)b)":   nfa("..!", arc(0, 'a', 1), arc(1, 'b', 2)),
		"(((ab)))": nfa("..!", arc(0, 'a', 1), arc(1, 'b', 2)),
	} {
		checkNfaOf(t, mustRead(t, text), want)
	}
}

// TestNfaOfPiecesInOtherOrders has kids that do not stand in the order in which their pieces do, or stand twice.
func TestNfaOfPiecesInOtherOrders(t *testing.T) {
	a, b, c := stepOf('a'), stepOf('b'), stepOf('c')
	for _, known := range []struct {
		p    impl.Path
		want impl.Nfa
	}{
		{path(a, b, rowOf(1, 0)), nfa("..!", arc(0, 'b', 1), arc(1, 'a', 2))},
		{path(a, b, altOf(1, 0)), nfa(".!!", arc(0, 'a', 2), arc(0, 'b', 1))},
		{path(a, rowOf(0, 0)), nfa("..!", arc(0, 'a', 1), arc(1, 'a', 2))},
		{path(a, altOf(0, 0, 0)), nfa(".!!!", arc(0, 'a', 1), arc(0, 'a', 2), arc(0, 'a', 3))},
		{path(a, starOf(0), rowOf(1, 1)), nfa("!!!", arc(0, 'a', 1), arc(0, 'a', 2), arc(1, 'a', 1), arc(1, 'a', 2), arc(2, 'a', 2))},
		{path(a, b, rowOf(0, 1), rowOf(2, 0, 2)), nfa(".....!", arc(0, 'a', 1), arc(1, 'b', 2), arc(2, 'a', 3), arc(3, 'a', 4), arc(4, 'b', 5))},
		{path(a, b, rowOf(0, 1, 0)), nfa("...!", arc(0, 'a', 1), arc(1, 'b', 2), arc(2, 'a', 3))},
		{path(a, b), nfa(".!", arc(0, 'b', 1))},
		{path(a, b, starOf(0)), nfa("!!", arc(0, 'a', 1), arc(1, 'a', 1))},
		{path(a, b, c, rowOf(0, 1), altOf(2, 0)), nfa(".!!", arc(0, 'a', 2), arc(0, 'c', 1))},
	} {
		checkNfaOf(t, known.p, known.want)
	}
}

func TestNfaOfAsWordsTell(t *testing.T) {
	for _, text := range rightPathTexts {
		if p := mustRead(t, text); stepsByHand(p) <= 3 {
			checkNfaOf(t, p, nfaByHand(p))
		}
	}
	for _, text := range []string{"abcd", "a|b|c|d", "(a|b)(c|d)", "a?b?c?d?", "(ab|cd)+", "((a|b)*c)+d?", "(a*b)?(c|d+)", "a(b(cd)?)*", "((ab)+|cd)*"} {
		p := mustRead(t, text)
		checkNfaOf(t, p, nfaByHand(p))
	}
	count := 0
	for _, p := range drawnPaths(3000, 101) {
		if stepsByHand(p) <= 3 {
			checkNfaOf(t, p, nfaByHand(p))
			count++
		}
	}
	if count < 1000 {
		t.Errorf("only %d drawn paths have few steps", count)
	}
}

func TestPathsThatTakeNothing(t *testing.T) {
	a, b := stepOf('a'), stepOf('b')
	for name, p := range map[string]impl.Path{
		"a?": path(a, optOf(0)), "a*": path(a, starOf(0)), "a?*": path(a, optOf(0), starOf(1)), "a*?": path(a, starOf(0), optOf(1)), "a**": path(a, starOf(0), starOf(1)), "a??": path(a, optOf(0), optOf(1)),
		"a?+": path(a, optOf(0), plusOf(1)), "a*+": path(a, starOf(0), plusOf(1)), "a+?": path(a, plusOf(0), optOf(1)), "a?+?*": path(a, optOf(0), plusOf(1), optOf(2), starOf(3)),
		"a?a?": path(a, optOf(0), rowOf(1, 1)), "a*a?": path(a, starOf(0), optOf(0), rowOf(1, 2)), "a?b*": path(a, b, optOf(0), starOf(1), rowOf(2, 3)), "(a?b*)+": path(a, b, optOf(0), starOf(1), rowOf(2, 3), plusOf(4)),
		"(a*b*)*": path(a, b, starOf(0), starOf(1), rowOf(2, 3), starOf(4)), "a|b?": path(a, b, optOf(1), altOf(0, 2)), "b?|a": path(a, b, optOf(1), altOf(2, 0)), "a?a?a?": path(a, optOf(0), rowOf(1, 1, 1)),
	} {
		nothing, ok := impl.NfaOf(p)
		oneWay, oneOk := impl.DfaOf(nothing)
		if !ok || !nothing.Ends[0] || !oneOk || !oneWay.Ends[0] {
			t.Errorf("the automaton of %s, %v, or %v, does not end in state 0", name, nothing, oneWay)
		}
		if !impl.PathTakes(p, "") || !impl.NfaTakes(nothing, "") || !impl.NfaTakes(oneWay, "") {
			t.Errorf("%s does not take nothing", name)
		}
		if got := impl.NfaPairs(graph(2), nothing); !slices.EqualFunc(got, [][]int{{0, 0}, {1, 1}}, slices.Equal[[]int]) {
			t.Errorf("%s leads in a graph without edges: %v", name, got)
		}
		checkWords(t, p, 4)
	}
	for _, text := range []string{"a", "a+", "ab?", "a?b", "a*b+", "(a*b)+", "a|b", "(a?b|c*d)+", "((a?)*b)+"} {
		p := mustRead(t, text)
		something, ok := impl.NfaOf(p)
		if !ok || something.Ends[0] || impl.PathTakes(p, "") || impl.NfaTakes(something, "") {
			t.Errorf("%q takes nothing: %v", text, something)
		}
		if got := impl.NfaPairs(graph(2), something); len(got) != 0 {
			t.Errorf("%q leads in a graph without edges: %v", text, got)
		}
	}
}

func TestPathTakesThatIsKnown(t *testing.T) {
	for text, words := range map[string]string{
		"a": "+a -aa -b -", "ab": "+ab -a -b -ba -abb -", "a|b": "+a +b -ab -c -", "a|bc": "+a +bc -b -ac -abc", "a*": "+ +a +aa +aaaaaaaaaaaa -aaaaaaaaaaaaa -b -ab -aaab", "a+": "- +a +aaa -ba", "a?": "+ +a -aa -b",
		"(ab)*": "+ +ab +abab +abababababab -aba -ba -ababababababab", "(ab)+": "- +ab +abab -a", "(a|b)c": "+ac +bc -abc -c", "((a|b)+c)?d": "+d +acd +ababcd -cd -ad -acdd", "a?b?": "+ +a +b +ab -ba -aa", "(a?b)+": "+b +ab +abb +bab -a -aab -",
		"a*b*": "+ +aabb -aba", "(a*b*)*": "+ +aba +bababa -c -abc", "aaaaaaaaaaaa": "+aaaaaaaaaaaa -aaaaaaaaaaa -aaaaaaaaaaaaa", "aaaaaaaaaaaaa": "-aaaaaaaaaaaa -aaaaaaaaaaaaa", "abcd": "+abcd -abc -dcba -abcdabcd",
	} {
		p := mustRead(t, text)
		a, ok := impl.NfaOf(p)
		for _, word := range strings.Split(words, " ") {
			want := word[0] == '+'
			checkPathTakes(t, p, word[1:], want)
			if got := impl.NfaTakes(a, word[1:]); !ok || got != want {
				t.Errorf("of %q NfaTakes(%v, %q) = %v", text, a, word[1:], got)
			}
		}
	}
}

func TestAutomataTakeTheWordsOfTheirPaths(t *testing.T) {
	for _, text := range rightPathTexts {
		checkWords(t, mustRead(t, text), 5)
	}
	for _, p := range drawnPaths(1500, 7) {
		checkWords(t, p, 3)
	}
	d := drawing{19}
	for range 300 {
		if p, ok := readPathByHand(drawnPathText(&d, 3)); ok {
			checkWords(t, p, 4)
		}
	}
}

// TestLongWordsOfPaths asks words up to the limit, and one more, against a regular expression.
func TestLongWordsOfPaths(t *testing.T) {
	words := wordsByHand("ab", 13)
	for _, text := range []string{"a", "(ab)*", "(aab)+", "(a|bb)*", "a*b*", "(a*b*)+", "((a|b)(a|b))*", "(aaa)*b?", "((ab|b)a)*", "(a?b?)+", "a(b(ab)*a)*", "aabbaabbaabb", "(aabb|ab)*", "(a+b)*(aa)?", "(abaaba)*"} {
		p := mustRead(t, text)
		fits := regexp.MustCompile("^" + bracketed(p, len(p.Pieces)-1) + "$")
		a, ok := impl.NfaOf(p)
		d, dOk := impl.DfaOf(a)
		for _, word := range words {
			want := len(word) <= 12 && fits.MatchString(word)
			if impl.PathTakes(p, word) != want || impl.NfaTakes(a, word) != want || impl.NfaTakes(d, word) != want || !ok || !dOk {
				t.Fatalf("of %q, %q: PathTakes %v, NfaTakes %v, one way %v; not %v", text, word, impl.PathTakes(p, word), impl.NfaTakes(a, word), impl.NfaTakes(d, word), want)
			}
		}
	}
}

func TestWordsOfOtherBytes(t *testing.T) {
	all := mustRead(t, "(a|b|c|d)*")
	wide := nfa("!", arc(0, 'a', 0), arc(0, 'b', 0), arc(0, 'c', 0), arc(0, 'd', 0))
	for b := range 256 {
		one := string([]byte{byte(b)})
		for _, word := range []string{one, "a" + one, one + "a", "abc" + one + "cba", strings.Repeat("d", 11) + one, one + strings.Repeat("d", 11)} {
			want := b >= 'a' && b <= 'd'
			checkPathTakes(t, all, word, want)
			if got := impl.NfaTakes(wide, word); got != want {
				t.Errorf("NfaTakes of all, %q = %v", word, got)
			}
			checkNfaTakes(t, wide, word)
		}
	}
	for _, p := range []impl.Path{mustRead(t, "a"), mustRead(t, "a*"), mustRead(t, "a?b?"), all} {
		a, _ := impl.NfaOf(p)
		for _, word := range someWords {
			if !isWord(word) {
				checkPathTakes(t, p, word, false)
				checkNfaTakes(t, a, word)
			}
		}
	}
}

func TestGreatWords(t *testing.T) {
	p := mustRead(t, "a*")
	a, _ := impl.NfaOf(p)
	for count := range 30 {
		word := strings.Repeat("a", count)
		checkPathTakes(t, p, word, count <= 12)
		checkNfaTakes(t, a, word)
		if got := impl.NfaTakes(a, word); got != (count <= 12) {
			t.Errorf("NfaTakes of a*, %d bytes: %v", count, got)
		}
	}
	great := strings.Repeat("a", 1<<22)
	checkPathTakes(t, p, great, false)
	if impl.NfaTakes(a, great) {
		t.Error("NfaTakes of a great word")
	}
}

func TestWrongPathsTakeNoWords(t *testing.T) {
	for name, p := range wrongPaths() {
		checkNoNfaOf(t, name, p)
		before := wholePath(p)
		for _, word := range someWords {
			if impl.PathTakes(p, word) {
				t.Errorf("PathTakes of %s, %q", name, word)
			}
		}
		if wholePath(p) != before {
			t.Errorf("PathTakes or NfaOf of %s wrote into what was given", name)
		}
	}
	// A label that is none may not be taken as one either, though the word has it.
	for _, label := range []byte{0, 'a' - 1, 'd' + 1, 'A', 255} {
		checkPathTakes(t, path(stepOf(label)), string([]byte{label}), false)
		checkPathTakes(t, path(stepOf('a'), stepOf(label), altOf(0, 1)), "a", false)
	}
}

// kidsFrom are places one behind the other.
func kidsFrom(first, count int) []int {
	kids := []int{}
	for i := range count {
		kids = append(kids, first+i)
	}
	return kids
}

func TestNfaOfAtTheMostStates(t *testing.T) {
	for count := 2; count <= 40; count++ {
		steps := slices.Repeat([]impl.Piece{stepOf('b')}, count)
		row := impl.Path{Pieces: append(slices.Clone(steps), rowOf(kidsFrom(0, count)...))}
		alt := impl.Path{Pieces: append(slices.Clone(steps), altOf(kidsFrom(0, count)...))}
		star := impl.Path{Pieces: append(slices.Clone(alt.Pieces), starOf(count))}
		shared := path(stepOf('b'), rowOf(make([]int, count)...))
		opts := path(stepOf('b'), optOf(0), rowOf(slices.Repeat([]int{1}, count)...))
		if count > 23 {
			for _, p := range []impl.Path{row, alt, star, shared, opts} {
				checkNoNfaOf(t, fmt.Sprint(count, " steps"), p)
			}
			continue
		}
		wantAlt := nfa("." + strings.Repeat("!", count))
		wantStar := nfa("!" + strings.Repeat("!", count))
		wantOpts := nfa("!" + strings.Repeat("!", count))
		for to := 1; to <= count; to++ {
			wantAlt.Arcs = append(wantAlt.Arcs, arc(0, 'b', to))
		}
		for from := range count + 1 {
			for to := 1; to <= count; to++ {
				wantStar.Arcs = append(wantStar.Arcs, arc(from, 'b', to))
				if to > from {
					wantOpts.Arcs = append(wantOpts.Arcs, arc(from, 'b', to))
				}
			}
		}
		checkNfaOf(t, row, wordNfa(strings.Repeat("b", count)))
		checkNfaOf(t, shared, wordNfa(strings.Repeat("b", count)))
		checkNfaOf(t, alt, wantAlt)
		checkNfaOf(t, star, wantStar)
		checkNfaOf(t, opts, wantOpts)
	}
}

func TestNfaOfEachLongestText(t *testing.T) {
	for text, states := range map[string]int{"abcdabcdabcdabcdabcd": 21, "a|b|c|d|a|b|c|d|a|bb": 12, "a*b*c*d*a*b*c*d*a*b*": 11, "(((((((((ab)))))))))": 3, "a*******************": 2, "((a|b)*(c|d)+)*abcda": 10} {
		a, ok := impl.NfaOf(mustRead(t, text))
		if !ok || a.States != states {
			t.Errorf("NfaOf of %q = %v, %v; not %d states", text, a, ok, states)
		}
		checkWords(t, mustRead(t, text), 4)
	}
}

// TestKidsThatAreComeToAgain has paths that come to their steps more often than can ever be walked, or counted.
func TestKidsThatAreComeToAgain(t *testing.T) {
	for count := 1; count <= 60; count++ {
		steps := math.Ldexp(1, count-1)
		row, alt := doublingPath(count, rowOf), doublingPath(count, altOf)
		for size := range 14 {
			word := strings.Repeat("a", size)
			checkPathTakes(t, row, word, float64(size) == steps && size <= 12)
			checkPathTakes(t, alt, word, size == 1)
		}
		if count <= 5 {
			checkNfaOf(t, row, wordNfa(strings.Repeat("a", int(steps))))
			checkWords(t, alt, 3)
			continue
		}
		checkNoNfaOf(t, "a row of rows", row)
		checkNoNfaOf(t, "an alternative of alternatives", alt)
		// What is not come to from the whole has no states, and does not count.
		row.Pieces[count-1] = stepOf('c')
		checkNfaOf(t, row, nfa(".!", arc(0, 'c', 1)))
	}
	for _, kids := range [][]int{make([]int, 1000), make([]int, 50000)} {
		p := path(stepOf('a'), rowOf(kids...))
		for last := 1; len(p.Pieces) < 60; last++ {
			p.Pieces = append(p.Pieces, altOf(slices.Repeat([]int{last}, 1000)...))
		}
		checkNoNfaOf(t, "many kids of many kids", p)
		checkPathTakes(t, p, "", false)
		checkPathTakes(t, p, "aaaaaaaaaaaa", false)
	}
}

func TestAgainAndAgainOfWhatMayTakeNothing(t *testing.T) {
	for _, first := range [][]impl.Piece{{stepOf('a'), optOf(0)}, {stepOf('a'), starOf(0)}, {stepOf('a'), starOf(0), starOf(1)}, {stepOf('a'), optOf(0), starOf(1), plusOf(2)}} {
		p := impl.Path{Pieces: first}
		for len(p.Pieces) < 60 {
			last := len(p.Pieces) - 1
			p.Pieces = append(p.Pieces, []impl.Piece{rowOf(last, last), starOf(last), altOf(last, last, last), plusOf(last), optOf(last), rowOf(last, last, last)}[len(p.Pieces)%6])
		}
		checkNoNfaOf(t, "stars of rows of stars", p)
		for _, word := range someWords {
			checkPathTakes(t, p, word, len(word) <= 12 && strings.Trim(word, "a") == "")
		}
	}
	stars := longPath(60, stepOf('a'))
	checkNfaOf(t, stars, nfa("!!", arc(0, 'a', 1), arc(1, 'a', 1)))
	checkWords(t, stars, 4)
	// 58 stars above 23 steps: as many states, and as many pieces, as there may be.
	most := path(stepOf('a'), altOf(make([]int, 23)...))
	for len(most.Pieces) < 60 {
		most.Pieces = append(most.Pieces, starOf(len(most.Pieces)-1))
	}
	a, ok := impl.NfaOf(most)
	if !ok || a.States != 24 || len(a.Arcs) != 24*23 || slices.Contains(a.Ends, false) {
		t.Errorf("NfaOf of 58 stars above 23 steps = %v, %v", a, ok)
	}
	checkWords(t, most, 3)
}

func TestNfaTakes(t *testing.T) {
	for _, a := range append(rightNfas(), drawnNfas(300, 24, 11)...) {
		for _, word := range someWords {
			checkNfaTakes(t, a, word)
		}
	}
	for _, a := range drawnNfas(200, 4, 13) {
		for _, word := range wordsByHand("abcd", 4) {
			checkNfaTakes(t, a, word)
		}
	}
	for _, word := range wordsByHand("ad", 12) {
		if !impl.NfaTakes(wordNfa(word), word) || impl.NfaTakes(wordNfa(word), word+"a") || impl.NfaTakes(wordNfa(word+"a"), word) {
			t.Fatalf("NfaTakes of the automaton of %q alone is wrong", word)
		}
	}
	if impl.NfaTakes(wordNfa("abcdabcdabcda"), "abcdabcdabcda") {
		t.Error("NfaTakes of a word of 13 bytes")
	}
}

func TestNfaTakesOfOneState(t *testing.T) {
	for _, word := range someWords {
		if impl.NfaTakes(nfa("."), word) || impl.NfaTakes(nfa("!"), word) != (word == "") {
			t.Errorf("NfaTakes of one state, %q, is wrong", word)
		}
	}
}

func TestNfaPairsThatAreKnown(t *testing.T) {
	three := graph(3, edge(0, 'a', 1), edge(1, 'a', 2), edge(2, 'b', 0))
	self := graph(2, edge(0, 'a', 0), edge(0, 'b', 1), edge(1, 'c', 1))
	for _, c := range []struct {
		g    impl.Graph
		a    impl.Nfa
		want [][]int
	}{
		{three, nfa("!"), [][]int{{0, 0}, {1, 1}, {2, 2}}}, {three, nfa("."), nil}, {three, nfa(".!"), nil}, {three, nfa("!!"), [][]int{{0, 0}, {1, 1}, {2, 2}}},
		{three, nfa(".!", arc(0, 'a', 1)), [][]int{{0, 1}, {1, 2}}}, {three, nfa(".!", arc(0, 'c', 1)), nil}, {three, nfa(".!", arc(1, 'a', 0)), nil},
		{three, wordNfa("ab"), [][]int{{1, 0}}}, {three, wordNfa("aab"), [][]int{{0, 0}}}, {three, nfa("!", arc(0, 'a', 0)), [][]int{{0, 0}, {0, 1}, {0, 2}, {1, 1}, {1, 2}, {2, 2}}},
		{three, nfa("..!", arc(0, 'a', 1), arc(0, 'b', 0), arc(1, 'a', 2)), [][]int{{0, 2}, {2, 2}}}, {three, nfa("...!", arc(0, 'a', 1), arc(1, 'b', 3), arc(2, 'b', 3)), [][]int{{1, 0}}},
		{self, nfa("!", arc(0, 'a', 0)), [][]int{{0, 0}, {1, 1}}}, {self, nfa(".!", arc(0, 'a', 0), arc(0, 'b', 1), arc(1, 'c', 1)), [][]int{{0, 1}}}, {self, wordNfa("aaaab"), [][]int{{0, 1}}}, {self, wordNfa("cc"), [][]int{{1, 1}}},
		{graph(1), nfa("!", arc(0, 'a', 0)), [][]int{{0, 0}}}, {graph(2), nfa(".!", arc(0, 'a', 1)), nil}, {graph(1, edge(0, 'd', 0)), wordNfa("dddddddddddd"), [][]int{{0, 0}}},
	} {
		if got := impl.NfaPairs(c.g, c.a); !slices.EqualFunc(got, c.want, slices.Equal[[]int]) {
			t.Errorf("NfaPairs(%v, %v) = %v; not %v", c.g, c.a, got, c.want)
		}
		checkNfaPairs(t, c.g, c.a)
	}
}

func TestNfaPairs(t *testing.T) {
	graphs := graphsToLead(30, 83)
	for i, a := range append(rightNfas(), drawnNfas(400, 6, 17)...) {
		checkNfaPairs(t, graphs[i%len(graphs)], a)
	}
	for i, a := range drawnNfas(60, 24, 23) {
		checkNfaPairs(t, graphs[i*7%len(graphs)], a)
	}
}

// TestNfaPairsAsWordsLead walks each word that is taken; in three vertices and three states one of at most 8 bytes comes to each end.
func TestNfaPairsAsWordsLead(t *testing.T) {
	words := wordsByHand("ab", 8)
	graphs := smallGraphs()
	for i, a := range drawnNfas(200, 3, 31) {
		g := graphs[i%len(graphs)]
		want := [][]int{}
		for from := range g.Size {
			ends := []int{}
			for _, word := range words {
				if nfaTakesByHand(a, word) {
					ends = append(ends, wordLeads(g, from, word)...)
				}
			}
			slices.Sort(ends)
			for _, to := range slices.Compact(ends) {
				want = append(want, []int{from, to})
			}
		}
		if got := impl.NfaPairs(g, a); !slices.EqualFunc(got, want, slices.Equal[[]int]) {
			t.Fatalf("NfaPairs(%v, %v) = %v; its words lead to %v", g, a, got, want)
		}
	}
}

func checkLeadsAsPath(t *testing.T, g impl.Graph, p impl.Path) {
	t.Helper()
	want := impl.PathPairs(g, p)
	a, ok := impl.NfaOf(p)
	if got := impl.NfaPairs(g, a); ok && !slices.EqualFunc(got, want, slices.Equal[[]int]) {
		t.Fatalf("in %v %v leads %v; its automaton %v", g, p, want, got)
	}
	d, ok := impl.DfaOf(a)
	if got := impl.NfaPairs(g, d); ok && !slices.EqualFunc(got, want, slices.Equal[[]int]) {
		t.Fatalf("in %v %v leads %v; its automaton that goes one way %v", g, p, want, got)
	}
}

func TestAutomataLeadWhereTheirPathsDo(t *testing.T) {
	checkManyPaths(t, checkLeadsAsPath)
}

// TestWaysLongerThanAWord has rings in which more steps are taken than a word may have bytes.
func TestWaysLongerThanAWord(t *testing.T) {
	for size := 1; size <= impl.MaxVerts; size++ {
		for round := 1; round <= 23; round++ {
			a := nfa("!" + strings.Repeat(".", round-1))
			for state := range round {
				a.Arcs = append(a.Arcs, arc(state, 'a', (state+1)%round))
			}
			// Round and round, one comes to each vertex that is a whole number of common measures away.
			measure := round
			for rest := size; rest > 0; {
				measure, rest = rest, measure%rest
			}
			want := [][]int{}
			for from := range size {
				for to := range size {
					if (to-from)%measure == 0 {
						want = append(want, []int{from, to})
					}
				}
			}
			for _, g := range []impl.Graph{ringGraph(size), impl.Turned(ringGraph(size))} {
				if got := impl.NfaPairs(g, a); !slices.EqualFunc(got, want, slices.Equal[[]int]) {
					t.Fatalf("NfaPairs of a ring of %d and one of %d states = %v; not %v", size, round, got, want)
				}
			}
		}
	}
	g, p := ringGraph(12), mustRead(t, "(aaaaa)+")
	if got := impl.PathPairs(g, p); len(got) != 144 {
		t.Fatalf("five steps again and again in a ring of 12 lead to %d pairs", len(got))
	}
	checkLeadsAsPath(t, g, p)
}

func TestDfaOfThatIsKnown(t *testing.T) {
	for _, c := range []struct{ a, want impl.Nfa }{
		{nfa("."), nfa(".")}, {nfa("!"), nfa("!")}, {nfa(".!!"), nfa(".")}, {nfa("!", arc(0, 'a', 0)), nfa("!", arc(0, 'a', 0))},
		{nfa(".!", arc(0, 'a', 1)), nfa(".!", arc(0, 'a', 1))}, {nfa("..!", arc(0, 'b', 2)), nfa(".!", arc(0, 'b', 1))}, {nfa("..!", arc(1, 'a', 2)), nfa(".")},
		{nfa("..!", arc(0, 'a', 2), arc(0, 'd', 1)), nfa(".!.", arc(0, 'a', 1), arc(0, 'd', 2))}, {nfa("..!", arc(0, 'b', 1), arc(0, 'b', 2)), nfa(".!", arc(0, 'b', 1))},
		{nfa(".!", arc(0, 'a', 0), arc(0, 'a', 1), arc(0, 'b', 0)), nfa(".!", arc(0, 'a', 1), arc(0, 'b', 0), arc(1, 'a', 1), arc(1, 'b', 0))},
		{nfa("..!", arc(0, 'a', 0), arc(0, 'a', 1), arc(0, 'b', 0), arc(1, 'a', 2), arc(1, 'b', 2)), nfa("..!!", arc(0, 'a', 1), arc(0, 'b', 0), arc(1, 'a', 2), arc(1, 'b', 3), arc(2, 'a', 2), arc(2, 'b', 3), arc(3, 'a', 1), arc(3, 'b', 0))},
		{nfa(".!!!", arc(0, 'a', 3), arc(0, 'b', 2), arc(0, 'c', 1), arc(0, 'd', 0)), nfa(".!!!", arc(0, 'a', 1), arc(0, 'b', 2), arc(0, 'c', 3), arc(0, 'd', 0))},
		{nfa("...!", arc(0, 'a', 2), arc(0, 'b', 1), arc(1, 'a', 3), arc(2, 'b', 3), arc(2, 'c', 1)), nfa("...!", arc(0, 'a', 1), arc(0, 'b', 2), arc(1, 'b', 3), arc(1, 'c', 2), arc(2, 'a', 3))},
		{wordNfa("abca"), wordNfa("abca")}, {wordNfa(strings.Repeat("dcba", 5) + "ddd"), wordNfa(strings.Repeat("dcba", 5) + "ddd")},
	} {
		if got, ok := impl.DfaOf(c.a); !ok || !sameNfa(got, c.want) {
			t.Errorf("DfaOf(%v) = %v, %v; not %v", c.a, got, ok, c.want)
		}
		checkDfaOf(t, c.a)
	}
}

func TestDfaOf(t *testing.T) {
	for _, a := range append(rightNfas(), drawnNfas(300, 24, 37)...) {
		checkDfaOf(t, a)
	}
	for _, a := range drawnNfas(1500, 5, 41) {
		checkDfaOf(t, a)
		d, ok := impl.DfaOf(a)
		if again, _ := impl.DfaOf(d); ok && !sameNfa(again, d) {
			t.Fatalf("DfaOf(%v), which goes one way, = %v", d, again)
		}
	}
	for _, text := range rightPathTexts {
		a, _ := impl.NfaOf(mustRead(t, text))
		checkDfaOf(t, a)
	}
}

// TestDfaOfAtTheMostStates needs automata whose sets are just as many as there may be, and one more.
func TestDfaOfAtTheMostStates(t *testing.T) {
	counts := map[int]int{}
	for _, a := range drawnNfas(6000, 12, 53) {
		count := dfaByHand(a).States
		counts[count]++
		d, ok := impl.DfaOf(a)
		if ok != (count <= 24) || ok && d.States != count || !ok && !isNoNfa(d) {
			t.Fatalf("DfaOf(%v), of %d sets, = %v, %v", a, count, d, ok)
		}
	}
	if counts[23] == 0 || counts[24] == 0 || counts[25] == 0 || counts[26] == 0 {
		t.Errorf("of sets at the limit there are %d, %d, %d, %d", counts[23], counts[24], counts[25], counts[26])
	}
	ring := nfa(endsAlone(24))
	for state := range 24 {
		ring.Arcs = append(ring.Arcs, arc(state, 'c', (state+1)%24))
	}
	if d, ok := impl.DfaOf(ring); !ok || !sameNfa(d, ring) {
		t.Errorf("DfaOf of a ring of 24 = %v, %v", d, ok)
	}
	// The last but so many are a: sets double with each one more.
	for last := 1; last <= 22; last++ {
		a := nfa(endsAlone(last+1), arc(0, 'a', 0), arc(0, 'a', 1), arc(0, 'b', 0))
		for state := 1; state < last; state++ {
			a.Arcs = append(a.Arcs, arc(state, 'a', state+1), arc(state, 'b', state+1))
		}
		d, ok := impl.DfaOf(a)
		if ok != (last <= 4) || ok && d.States != 1<<last || !ok && !isNoNfa(d) {
			t.Errorf("DfaOf, %d from the last one: %v, %v", last, d, ok)
		}
	}
}

func TestOneWay(t *testing.T) {
	for _, a := range append(rightNfas(), drawnNfas(600, 8, 59)...) {
		checkOneWay(t, a)
	}
	for _, c := range []struct {
		a    impl.Nfa
		want bool
	}{
		{nfa("."), true}, {nfa("!", arc(0, 'a', 0)), true}, {nfa("..", arc(0, 'a', 0), arc(0, 'a', 1)), false}, {nfa("..", arc(0, 'a', 0), arc(0, 'b', 0)), true}, {nfa("..", arc(0, 'a', 1), arc(1, 'a', 1)), true},
		{nfa("...", arc(0, 'a', 0), arc(2, 'd', 0), arc(2, 'd', 2)), false}, {nfa("..", arc(1, 'c', 0), arc(1, 'c', 1)), false}, {nfa("..", arc(0, 'a', 1), arc(0, 'b', 0), arc(1, 'a', 1), arc(1, 'b', 0)), true},
		{nfa("...", arc(0, 'a', 0), arc(0, 'a', 1), arc(1, 'b', 2)), false},
	} {
		if got := impl.OneWay(c.a); got != c.want {
			t.Errorf("OneWay(%v) = %v", c.a, got)
		}
	}
	for text, want := range map[string]bool{"a": true, "a|b": true, "a|a": false, "ab|ac": false, "a*a": false, "a*b": true, "(a|b)*": true, "a(a|b)*": true, "(ab)*a?": false} {
		a, ok := impl.NfaOf(mustRead(t, text))
		if got := impl.OneWay(a); !ok || got != want {
			t.Errorf("OneWay of the automaton of %q = %v", text, got)
		}
	}
}

func TestSameWordsOfPaths(t *testing.T) {
	same := [][]string{
		{"a", "(a)", "((a))", "a|a"}, {"a*", "a**", "a*?", "a?*", "a+?", "a*a*", "(a|aa)*", "(aa)*a?"}, {"a+", "aa*", "a*a", "a++", "a|aa+"}, {"a?", "a??", "a?|a"}, {"(a|b)*", "(a*b*)*", "(a*|b)*", "(b|a)*", "(a?b?)+", "a*(ba*)*"},
		{"a|b", "b|a", "b|a|b"}, {"ab|ac", "a(b|c)", "a(c|b)"}, {"(ab)*a", "a(ba)*"}, {"b"}, {"ab"}, {"ba"}, {"(ab)*"}, {"(ab)+"}, {"a|b|c|d"}, {"aaaaaa"}, {"aaaaab"}, {"(aaa)*"}, {"(aa)*"}, {"a?b?"}, {"a*b*"},
	}
	for i, list := range same {
		for k, other := range same {
			for _, text := range list {
				for _, otherText := range other {
					a, _ := impl.NfaOf(mustRead(t, text))
					b, _ := impl.NfaOf(mustRead(t, otherText))
					checkSameWords(t, a, b, i == k)
				}
			}
		}
	}
	// They part at a word of 7 bytes, or not at all.
	for _, pair := range [][2]string{{"aaaaaaa", "aaaaaaab"}, {"aaaaaaa", "bbbbbbb"}, {"a?a?a?a?a?a?", "a*"}, {"(aaaaaaa)*", "(aaaaaaaa)*"}} {
		a, _ := impl.NfaOf(mustRead(t, pair[0]))
		b, _ := impl.NfaOf(mustRead(t, pair[1]))
		checkSameWords(t, a, b, true)
		checkSameWords(t, a, b, sameWordsByHand(a, b))
	}
	for _, pair := range [][2]string{{"a?a?a?a?a?", "a*"}, {"(aaaaaa)*", "(aaaaaaa)*"}, {"(a|b)+", "a*b*a*b*a*b*"}, {"(abc)*", "(abcabc)*"}} {
		a, _ := impl.NfaOf(mustRead(t, pair[0]))
		b, _ := impl.NfaOf(mustRead(t, pair[1]))
		checkSameWords(t, a, b, false)
	}
}

// TestSameWordsThatPartAtOneWord has automata that differ in one word alone, of each length.
func TestSameWordsThatPartAtOneWord(t *testing.T) {
	none, all := nfa("."), nfa("!", arc(0, 'a', 0), arc(0, 'b', 0), arc(0, 'c', 0), arc(0, 'd', 0))
	for size := range 24 {
		for _, word := range []string{strings.Repeat("a", size), strings.Repeat("d", size), strings.Repeat("abcd", 6)[:size], strings.Repeat("dbca", 6)[:size]} {
			one := wordNfa(word)
			checkSameWords(t, one, none, size > 6)
			checkSameWords(t, one, one, true)
			checkSameWords(t, one, all, false)
			// All words but this one: off its way all are taken.
			but := nfa(strings.Repeat("!", size)+".!", arc(size+1, 'a', size+1), arc(size+1, 'b', size+1), arc(size+1, 'c', size+1), arc(size+1, 'd', size+1))
			if size > 22 {
				continue
			}
			for state := range size + 1 {
				for _, label := range []byte("abcd") {
					to := size + 1
					if state < size && word[state] == label {
						to = state + 1
					}
					but.Arcs = append(but.Arcs, arc(state, label, to))
				}
			}
			slices.SortFunc(but.Arcs, arcsByHand)
			checkSameWords(t, but, all, size > 6)
		}
	}
	for _, word := range wordsByHand("abcd", 6) {
		if got := impl.SameWords(wordNfa(word), none); got {
			t.Fatalf("SameWords of %q alone and of no words", word)
		}
	}
}

func TestSameWordsAsByHand(t *testing.T) {
	list := append(drawnNfas(24, 3, 61), nfa("."), nfa("!"), nfa("!", arc(0, 'a', 0)), nfa("!.", arc(0, 'a', 1), arc(1, 'a', 0)))
	counts := map[bool]int{}
	for i, a := range list {
		for _, b := range list[:i+1] {
			want := sameWordsByHand(a, b)
			counts[want]++
			checkSameWords(t, a, b, want)
		}
	}
	if counts[true] < len(list)+5 || counts[false] < 50 {
		t.Errorf("of the same words %d, of others %d", counts[true], counts[false])
	}
	for _, a := range drawnNfas(400, 7, 67) {
		d, ok := impl.DfaOf(a)
		checkSameWords(t, a, a, true)
		checkSameWords(t, a, d, ok)
	}
}

func TestWrongAutomata(t *testing.T) {
	right := nfa("!", arc(0, 'a', 0), arc(0, 'b', 0), arc(0, 'c', 0), arc(0, 'd', 0))
	for name, a := range wrongNfas() {
		wide := roomyNfa(a)
		before := wholeNfa(wide)
		for _, word := range someWords {
			if impl.NfaTakes(wide, word) {
				t.Errorf("NfaTakes of %s, %q", name, word)
			}
		}
		for _, g := range append(rightGraphs(), ringGraphs()...) {
			if got := impl.NfaPairs(g, wide); len(got) != 0 {
				t.Errorf("NfaPairs of %s = %v; not nothing", name, got)
			}
		}
		if d, ok := impl.DfaOf(wide); ok || !isNoNfa(d) {
			t.Errorf("DfaOf of %s = %v, %v; not refused", name, d, ok)
		}
		if impl.OneWay(wide) || impl.SameWords(wide, wide) {
			t.Errorf("%s goes one way, or takes the same words as itself", name)
		}
		checkSameWords(t, wide, right, false)
		checkSameWords(t, wide, nfa("."), false)
		if wholeNfa(wide) != before {
			t.Errorf("of %s something wrote into what was given", name)
		}
	}
}

func TestNfaPairsOfWrongGraphs(t *testing.T) {
	for name, g := range wrongGraphs() {
		wide := roomyGraph(g)
		before := wholeGraph(wide)
		for _, a := range rightNfas() {
			if got := impl.NfaPairs(wide, a); len(got) != 0 {
				t.Errorf("NfaPairs of a graph with %s, %v = %v; not nothing", name, a, got)
			}
		}
		for _, a := range wrongNfas() {
			if got := impl.NfaPairs(wide, a); len(got) != 0 {
				t.Errorf("NfaPairs of a graph with %s, %v = %v; not nothing", name, a, got)
			}
		}
		if wholeGraph(wide) != before {
			t.Errorf("NfaPairs of a graph with %s wrote into what was given", name)
		}
	}
}

// TestListsInOneMemory hands in automata whose lists share memory with one another.
func TestListsInOneMemory(t *testing.T) {
	ends := []bool{false, true, false, true}
	arcs := []impl.Arc{arc(0, 'a', 1), arc(0, 'b', 0), arc(1, 'a', 1), arc(1, 'c', 0)}
	one := impl.Nfa{States: 2, Arcs: arcs[:2], Ends: ends[:2]}
	other := impl.Nfa{States: 3, Arcs: arcs[1:4], Ends: ends[1:4]}
	before := fmt.Sprint(ends, arcs)
	for _, a := range []impl.Nfa{one, other} {
		for _, word := range wordsByHand("abc", 4) {
			if got, want := impl.NfaTakes(a, word), nfaTakesByHand(a, word); got != want {
				t.Errorf("NfaTakes(%v, %q) = %v", a, word, got)
			}
		}
		d, ok := impl.DfaOf(a)
		if !ok || !sameNfa(d, dfaByHand(a)) {
			t.Errorf("DfaOf(%v) = %v, %v", a, d, ok)
		}
		checkApart(t, "DfaOf", spansOfNfa(d), append(spansOfNfa(one), spansOfNfa(other)...))
	}
	checkSameWords(t, one, other, sameWordsByHand(one, other))
	if impl.SameWords(one, other) != sameWordsByHand(one, other) || fmt.Sprint(ends, arcs) != before {
		t.Error("SameWords of lists in one memory is wrong, or wrote into them")
	}
}
