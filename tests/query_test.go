package tests

import (
	"fmt"
	"math"
	"regexp"
	"slices"
	"strconv"
	"strings"
	"testing"
	"unsafe"

	"loop.example/g00250/impl"
)

func atom(from, path, to string) impl.Atom { return impl.Atom{From: from, Path: path, To: to} }

func than(left string, op int, right string) impl.Filter {
	return impl.Filter{Left: left, Op: op, Right: right}
}

func thanNum(left string, op, num int) impl.Filter {
	return impl.Filter{Left: left, Op: op, Num: num}
}

// query takes the names of Out with blanks between.
func query(out string, atoms ...impl.Atom) impl.Query {
	return impl.Query{Out: strings.Fields(out), Atoms: atoms}
}

func withEach(q impl.Query) impl.Query {
	q.Each = true
	return q
}

func withFilters(q impl.Query, filters ...impl.Filter) impl.Query {
	q.Filters = filters
	return q
}

// chainQuery asks from name to name, so that all of them are names of it; Out is the first one.
func chainQuery(names ...string) impl.Query {
	q := query(names[0])
	for i := range names[1:] {
		q.Atoms = append(q.Atoms, atom(names[i], "a", names[i+1]))
	}
	return q
}

func sameQuery(a, b impl.Query) bool {
	same := a.Each == b.Each && len(a.Out) == len(b.Out) && len(a.Atoms) == len(b.Atoms) && len(a.Filters) == len(b.Filters)
	for i := range a.Out {
		same = same && a.Out[i] == b.Out[i]
	}
	for i := range a.Atoms {
		x, y := a.Atoms[i], b.Atoms[i]
		same = same && x.From == y.From && x.Path == y.Path && x.To == y.To
	}
	for i := range a.Filters {
		x, y := a.Filters[i], b.Filters[i]
		same = same && x.Left == y.Left && x.Op == y.Op && x.Right == y.Right && x.Num == y.Num
	}
	return same
}

func isNoQuery(q impl.Query) bool {
	return !q.Each && len(q.Out) == 0 && len(q.Atoms) == 0 && len(q.Filters) == 0
}

var nameForm = regexp.MustCompile(`\A[a-z]{1,4}\z`)

func rightName(s string) bool { return nameForm.MatchString(s) && s != "each" }

func namesByHand(q impl.Query) []string {
	all := []string{}
	for _, a := range q.Atoms {
		all = append(all, a.From, a.To)
	}
	names := []string{}
	for i, name := range all {
		if slices.Index(all, name) == i {
			names = append(names, name)
		}
	}
	return names
}

// rightQuery is the chapter's sentence, clause by clause.
func rightQuery(q impl.Query) bool {
	right := len(q.Atoms) >= 1 && len(q.Atoms) <= 4 && len(q.Out) >= 1 && len(q.Out) <= 4 && len(q.Filters) <= 3
	if !right {
		return false
	}
	for _, a := range q.Atoms {
		p, ok := readPathByHand(a.Path)
		right = right && ok && stepsByHand(p) <= 23 && rightName(a.From) && rightName(a.To)
	}
	names := namesByHand(q)
	isName := func(name string) bool { return slices.Index(names, name) >= 0 }
	right = right && len(names) <= 4
	for i, name := range q.Out {
		right = right && isName(name) && slices.Index(q.Out, name) == i
	}
	for _, f := range q.Filters {
		number := f.Right == "" && f.Num >= 0 && f.Num <= 99
		right = right && isName(f.Left) && (f.Op == 1 || f.Op == 2) && (number || isName(f.Right) && f.Num == 0)
	}
	return right
}

var (
	headForm   = regexp.MustCompile(`\A *(each +)?([a-z]+ *(?:, *[a-z]+ *)*)\z`)
	atomForm   = regexp.MustCompile(`\A *([a-z]+) *\[([^]]*)\] *([a-z]+) *\z`)
	filterForm = regexp.MustCompile(`\A *([a-z]+) *([<=]) *(?:([a-z]+)|([0-9]{1,2})) *\z`)
)

// readQueryByHand cuts the text at its signs, which no right thing has in it, and asks regular expressions of the rest.
func readQueryByHand(text string) (impl.Query, bool) {
	head, things, _ := strings.Cut(text, ":")
	ahead := headForm.FindStringSubmatch(head)
	if ahead == nil || len(text) > 200 {
		return impl.Query{}, false
	}
	q := impl.Query{Each: ahead[1] != ""}
	for _, name := range strings.Split(ahead[2], ",") {
		q.Out = append(q.Out, strings.Trim(name, " "))
	}
	for _, thing := range strings.Split(things, ",") {
		if a := atomForm.FindStringSubmatch(thing); a != nil {
			q.Atoms = append(q.Atoms, atom(a[1], a[2], a[3]))
		} else if f := filterForm.FindStringSubmatch(thing); f != nil {
			num, _ := strconv.Atoi(f[4])
			q.Filters = append(q.Filters, impl.Filter{Left: f[1], Op: 1 + strings.Index("<=", f[2]), Right: f[3], Num: num})
		} else {
			return impl.Query{}, false
		}
	}
	if !rightQuery(q) {
		return impl.Query{}, false
	}
	return q, true
}

func showQueryByHand(q impl.Query) (string, bool) {
	if !rightQuery(q) {
		return "", false
	}
	text := map[bool]string{true: "each "}[q.Each] + strings.Join(q.Out, ", ")
	between := " : "
	for _, a := range q.Atoms {
		text += fmt.Sprintf("%s%s [%s] %s", between, a.From, a.Path, a.To)
		between = ", "
	}
	for _, f := range q.Filters {
		sign := []string{"<", "="}[f.Op-1]
		if f.Right != "" {
			text += fmt.Sprintf(", %s %s %s", f.Left, sign, f.Right)
		} else {
			text += fmt.Sprintf(", %s %s %d", f.Left, sign, f.Num)
		}
	}
	if len(text) > 200 {
		return "", false
	}
	return text, true
}

// showPathByHand goes down from the whole to each kid anew, but no further than the text may be long.
func showPathByHand(p impl.Path) (string, bool) {
	if !rightPath(p) {
		return "", false
	}
	text := ""
	var tell func(place int)
	tell = func(place int) {
		x := p.Pieces[place]
		for i, kid := range x.Kids {
			if len(text) > 20 {
				return
			}
			if i > 0 && x.Op == impl.PaAlt {
				text += "|"
			}
			before := len(text)
			tell(kid)
			if of := p.Pieces[kid].Op; of == impl.PaAlt || of == impl.PaRow && x.Op != impl.PaAlt {
				text = text[:before] + "(" + text[before:] + ")"
			}
		}
		text += map[int]string{impl.PaStep: string(rune(x.Label)), impl.PaStar: "*", impl.PaPlus: "+", impl.PaOpt: "?"}[x.Op]
	}
	tell(len(p.Pieces) - 1)
	if len(text) > 20 {
		return "", false
	}
	return text, true
}

func swappedByHand(q impl.Query, k int) (impl.Query, bool) {
	if !rightQuery(q) || k < 0 || k > len(q.Atoms)-1 {
		return q, false
	}
	p, _ := readPathByHand(q.Atoms[k].Path)
	back, _ := showPathByHand(turnedPathByHand(p))
	q.Atoms = slices.Concat(q.Atoms[:k], []impl.Atom{atom(q.Atoms[k].To, back, q.Atoms[k].From)}, q.Atoms[k+1:])
	return q, true
}

// roomyThings has spare room behind its things, with some of its own in it; texts lie in memory of their own.
func roomyThings[T any](list []T, clone func(x T) T, spare T) []T {
	out := make([]T, 0, len(list)+2)
	for _, x := range list {
		out = append(out, clone(x))
	}
	for i := len(out); i < cap(out); i++ {
		out[:cap(out)][i] = spare
	}
	return out
}

func roomyQuery(q impl.Query) impl.Query {
	cloneAtom := func(a impl.Atom) impl.Atom {
		return atom(strings.Clone(a.From), strings.Clone(a.Path), strings.Clone(a.To))
	}
	cloneFilter := func(f impl.Filter) impl.Filter {
		return impl.Filter{Left: strings.Clone(f.Left), Op: f.Op, Right: strings.Clone(f.Right), Num: f.Num}
	}
	return impl.Query{
		Each: q.Each, Out: roomyThings(q.Out, strings.Clone, "y"),
		Atoms: roomyThings(q.Atoms, cloneAtom, atom("x", "a", "y")), Filters: roomyThings(q.Filters, cloneFilter, thanNum("x", 1, 7)),
	}
}

// wholeQuery tells all of a question, the places of its lists and the room behind them too.
func wholeQuery(q impl.Query) string {
	out := fmt.Sprintf("%v %p %d %p %d %p %d", q.Each, q.Out, len(q.Out), q.Atoms, len(q.Atoms), q.Filters, len(q.Filters))
	return out + fmt.Sprintf(" %q %q %v", q.Out[:cap(q.Out)], q.Atoms[:cap(q.Atoms)], q.Filters[:cap(q.Filters)])
}

func spanOfList[T any](list []T) span {
	from := uintptr(unsafe.Pointer(unsafe.SliceData(list)))
	var one T
	return span{from, from + uintptr(cap(list))*unsafe.Sizeof(one)}
}

func listsOfQuery(q impl.Query) []span {
	return []span{spanOfList(q.Out), spanOfList(q.Atoms), spanOfList(q.Filters)}
}

func textsOfQuery(q impl.Query) []string {
	out := slices.Clone(q.Out)
	for _, a := range q.Atoms {
		out = append(out, a.From, a.Path, a.To)
	}
	for _, f := range q.Filters {
		out = append(out, f.Left, f.Right)
	}
	return out
}

func checkTextsApart(t *testing.T, name string, answer, given []string) {
	t.Helper()
	for _, a := range answer {
		if slices.ContainsFunc(given, func(b string) bool { return sharesMemory(a, b) }) {
			t.Fatalf("%s: the text %q of the answer lies in an argument", name, a)
		}
	}
}

func checkQueryOk(t *testing.T, name string, q impl.Query, want bool) {
	t.Helper()
	if rightQuery(q) != want {
		t.Fatalf("%s, %+v: the test itself is wrong", name, q)
	}
	q = roomyQuery(q)
	before := wholeQuery(q)
	if got := impl.QueryOk(q); got != want {
		t.Errorf("QueryOk of %s, %+v = %v; not %v", name, q, got, want)
	}
	if wholeQuery(q) != before {
		t.Errorf("QueryOk of %s wrote into what was given", name)
	}
}

func checkNamesOf(t *testing.T, q impl.Query) {
	t.Helper()
	name := fmt.Sprintf("NamesOf(%+v)", q)
	want := namesByHand(q)
	q = roomyQuery(q)
	before := wholeQuery(q)
	got := impl.NamesOf(q)
	if !slices.Equal(got, want) {
		t.Errorf("%s = %q; not %q", name, got, want)
	}
	if wholeQuery(q) != before {
		t.Errorf("%s wrote into what was given", name)
	}
	checkApart(t, name, []span{spanOfList(got), spanOfList(impl.NamesOf(q))}, listsOfQuery(q))
	checkTextsApart(t, name, got, textsOfQuery(q))
}

func checkReadQuery(t *testing.T, text string) {
	t.Helper()
	want, right := readQueryByHand(text)
	text = strings.Clone(text)
	got, ok := impl.ReadQuery(text)
	if ok != right || !sameQuery(got, want) {
		t.Errorf("ReadQuery(%q) = %+v, %v; not %+v, %v", text, got, ok, want, right)
	}
	if ok && !impl.QueryOk(got) {
		t.Errorf("ReadQuery(%q) = %+v, which is not right", text, got)
	}
	again, _ := impl.ReadQuery(text)
	name := fmt.Sprintf("ReadQuery(%q)", text)
	checkApart(t, name, append(listsOfQuery(got), listsOfQuery(again)...), nil)
	checkTextsApart(t, name, textsOfQuery(got), []string{text})
}

func checkAsked(t *testing.T, text string, want impl.Query) {
	t.Helper()
	if got, ok := impl.ReadQuery(text); !ok || !sameQuery(got, want) {
		t.Errorf("ReadQuery(%q) = %+v, %v; not %+v", text, got, ok, want)
	}
	checkReadQuery(t, text)
}

func checkNotAsked(t *testing.T, text string) {
	t.Helper()
	if got, ok := impl.ReadQuery(text); ok || !isNoQuery(got) {
		t.Errorf("ReadQuery(%q) = %+v, %v; not refused", text, got, ok)
	}
	checkReadQuery(t, text)
}

// checkShowQuery also asks that what is shown is read again, as what it was.
func checkShowQuery(t *testing.T, q impl.Query) {
	t.Helper()
	want, right := showQueryByHand(q)
	q = roomyQuery(q)
	before := wholeQuery(q)
	text, ok := impl.ShowQuery(q)
	if text != want || ok != right {
		t.Fatalf("ShowQuery(%+v) = %q, %v; not %q, %v", q, text, ok, want, right)
	}
	if wholeQuery(q) != before {
		t.Fatalf("ShowQuery(%+v) wrote into what was given", q)
	}
	checkTextsApart(t, fmt.Sprintf("ShowQuery(%+v)", q), []string{text}, textsOfQuery(q))
	if !ok {
		return
	}
	if again, ok := impl.ReadQuery(text); !ok || !sameQuery(again, q) || !impl.SameQuery(again, q) {
		t.Fatalf("%+v comes back as %+v, %v from %q", q, again, ok, text)
	}
}

func checkSameQuery(t *testing.T, a, b impl.Query, want bool) {
	t.Helper()
	a, b = roomyQuery(a), roomyQuery(b)
	before := wholeQuery(a) + wholeQuery(b)
	if impl.SameQuery(a, b) != want || impl.SameQuery(b, a) != want {
		t.Errorf("SameQuery of %+v and %+v, or the other way round, is not %v", a, b, want)
	}
	if wholeQuery(a)+wholeQuery(b) != before {
		t.Errorf("SameQuery of %+v and %+v wrote into what was given", a, b)
	}
}

func checkSwapped(t *testing.T, q impl.Query, k int) {
	t.Helper()
	name := fmt.Sprintf("Swapped(%+v, %d)", q, k)
	want, right := swappedByHand(q, k)
	q = roomyQuery(q)
	before := wholeQuery(q)
	got, ok := impl.Swapped(q, k)
	if ok != right || !sameQuery(got, want) {
		t.Errorf("%s = %+v, %v; not %+v, %v", name, got, ok, want, right)
	}
	if ok && !impl.QueryOk(got) {
		t.Errorf("%s = %+v, which is not right", name, got)
	}
	if wholeQuery(q) != before {
		t.Errorf("%s wrote into what was given", name)
	}
	again, _ := impl.Swapped(q, k)
	checkApart(t, name, append(listsOfQuery(got), listsOfQuery(again)...), listsOfQuery(q))
	checkTextsApart(t, name, textsOfQuery(got), textsOfQuery(q))
}

// checkShowPath also asks that what is shown is read again, as a path that has the same automaton.
func checkShowPath(t *testing.T, p impl.Path) {
	t.Helper()
	want, right := showPathByHand(p)
	p = roomyPath(p)
	before := wholePath(p)
	text, ok := impl.ShowPath(p)
	if text != want || ok != right {
		t.Fatalf("ShowPath(%v) = %q, %v; not %q, %v", p, text, ok, want, right)
	}
	if wholePath(p) != before {
		t.Fatalf("ShowPath(%v) wrote into what was given", p)
	}
	if !ok {
		return
	}
	again, ok := impl.ReadPath(text)
	one, _ := impl.NfaOf(p)
	other, otherOk := impl.NfaOf(again)
	if !ok || !otherOk || !sameNfa(one, other) {
		t.Fatalf("%v comes back as %v, %v from %q: automata %v, %v", p, again, ok, text, one, other)
	}
}

func rightQueries() []impl.Query {
	x, y := atom("x", "ab*", "y"), atom("y", "(a|b)c", "z")
	out := []impl.Query{
		query("x", atom("x", "a", "x")), query("x", x), query("y", x), query("x y", x), query("y x", x), query("abcd", atom("abcd", "d", "eac")),
		query("x", x, x), query("z", x, y), query("z x y", x, y), query("x", x, atom("y", "a", "x")), query("w z y x", x, y, atom("z", "a?", "w")),
		query("a", atom("a", "a", "a"), atom("b", "b", "b"), atom("c", "c", "c"), atom("d", "d", "d")), query("c a", x, atom("a", "b+", "c")),
		withFilters(query("x", x), than("x", 1, "y")), withFilters(query("x", x), than("y", 2, "x")), withFilters(query("y", x), than("x", 2, "x"), than("x", 2, "x")),
		withFilters(query("x", x), thanNum("x", 1, 0)), withFilters(query("x", x), thanNum("y", 2, 99), thanNum("x", 1, 10), than("x", 1, "y")),
		withFilters(query("x z", x, y), than("z", 1, "x"), thanNum("y", 2, 7), thanNum("y", 1, 98)),
		chainQuery("x", "y", "z", "w", "x"), chainQuery("eac", "ach", "ach", "h", "eac"),
	}
	for _, text := range rightPathTexts {
		if len(text) <= 20 {
			out = append(out, query("x", atom("x", text, "y")))
		}
	}
	for _, q := range slices.Clone(out) {
		out = append(out, withEach(q))
	}
	return out
}

// drawnQueries are right ones; what is drawn hangs on the seed alone.
func drawnQueries(count int, seed uint32) []impl.Query {
	d := drawing{seed}
	names := []string{"x", "y", "z", "a", "b", "ab", "ba", "eac", "ach", "abcd", "zzzz", "aaaa", "ecah", "e"}
	out := []impl.Query{}
	for range count {
		first, among := d.below(len(names)), 1+d.below(4)
		name := func() string { return names[(first+d.below(among))%len(names)] }
		q := impl.Query{Each: d.below(2) == 0}
		for range 1 + d.below(4) {
			path := drawnPathText(&d, 2)
			for len(path) > 20 {
				path = drawnPathText(&d, 2)
			}
			q.Atoms = append(q.Atoms, atom(name(), path, name()))
		}
		met := namesByHand(q)
		for _, i := range []int{d.below(len(met)), d.below(len(met)), d.below(len(met)), d.below(len(met))} {
			if !slices.Contains(q.Out, met[i]) {
				q.Out = append(q.Out, met[i])
			}
		}
		for range d.below(4) {
			f := thanNum(met[d.below(len(met))], 1+d.below(2), d.below(100))
			if d.below(2) == 0 {
				f.Right, f.Num = met[d.below(len(met))], 0
			}
			q.Filters = append(q.Filters, f)
		}
		out = append(out, q)
	}
	return out
}

func wrongQueries() map[string]impl.Query {
	x, y := atom("x", "ab*", "y"), atom("y", "a", "z")
	all := query("x y z", x, y)
	out := map[string]impl.Query{
		"nothing":                       {},
		"each alone":                    {Each: true},
		"no Out":                        query("", x),
		"no Atoms":                      query("x"),
		"no Atoms, but a filter":        withFilters(query("x"), thanNum("x", 1, 1)),
		"an Out of no name":             {Out: []string{""}, Atoms: []impl.Atom{x}},
		"an Out of no name behind":      {Out: []string{"x", ""}, Atoms: []impl.Atom{x}},
		"an Out of no atom":             query("z", x),
		"an Out of no atom behind":      query("x y z", x),
		"an Out that is each":           query("each", x),
		"one twice in Out":              query("x x", x),
		"one twice in Out, apart":       query("x y x", x),
		"the last one twice in Out":     query("x y z z", x, y),
		"five in Out":                   query("x y z w x", x, y, atom("z", "a", "w")),
		"five in Out, one of no atom":   query("x y z w v", x, y, atom("z", "a", "w")),
		"many in Out":                   {Out: slices.Repeat([]string{"x"}, 1000), Atoms: []impl.Atom{x}},
		"five Atoms":                    query("x", x, x, x, x, x),
		"many Atoms":                    {Out: []string{"x"}, Atoms: slices.Repeat([]impl.Atom{x}, 1000)},
		"five names":                    chainQuery("x", "y", "z", "w", "v"),
		"eight names":                   query("a", atom("a", "a", "b"), atom("c", "a", "d"), atom("e", "a", "f"), atom("g", "a", "h")),
		"a From of no name":             query("y", atom("", "a", "y")),
		"a To of no name":               query("x", atom("x", "a", "")),
		"a From that is each":           query("y", atom("each", "a", "y")),
		"a To that is each":             query("x", atom("x", "a", "each")),
		"each as From, To and Out":      query("each", atom("each", "a", "each")),
		"a From of five letters":        query("y", atom("abcde", "a", "y")),
		"a To of five letters":          query("x", atom("x", "a", "abcde")),
		"a From with a figure":          query("y", atom("x1", "a", "y")),
		"a From that is great":          query("y", atom("X", "a", "y")),
		"a To with a blank":             {Out: []string{"x"}, Atoms: []impl.Atom{atom("x", "a", "y ")}},
		"a To that is no letter a to z": query("x", atom("x", "a", "é")),
		"a To that is no rune":          query("x", atom("x", "a", "\xff")),
		"a wrong name in the last atom": query("x", x, y, x, atom("x", "a", "yY")),
		"a wrong path in the last atom": query("x", x, y, x, atom("x", "e", "y")),
		"a wrong path in the first":     query("x", atom("x", "a|", "y"), x, y, x),
		"a path of 21 bytes":            query("x", atom("x", strings.Repeat("a", 21), "y")),
		"a path of many bytes":          query("x", atom("x", strings.Repeat("a", 100000), "y")),
		"four filters":                  withFilters(all, thanNum("x", 1, 1), thanNum("y", 1, 1), thanNum("z", 1, 1), thanNum("x", 2, 1)),
		"many filters":                  withFilters(all, slices.Repeat([]impl.Filter{thanNum("x", 1, 1)}, 1000)...),
	}
	for _, path := range wrongPathTexts {
		out[fmt.Sprintf("the path %q", path)] = query("x", atom("x", path, "y"))
	}
	for name, f := range wrongFilters() {
		out[name] = withFilters(all, f)
		out[name+" behind two"] = withFilters(all, thanNum("x", 1, 0), than("x", 2, "z"), f)
		out[name+" ahead of two"] = withFilters(all, f, thanNum("x", 1, 0), than("x", 2, "z"))
	}
	return out
}

// wrongFilters are so with x, y and z as names.
func wrongFilters() map[string]impl.Filter {
	return map[string]impl.Filter{
		"a filter of nothing":         {},
		"a filter of no Op":           thanNum("x", 0, 1),
		"an Op of 3":                  thanNum("x", 3, 1),
		"an Op below 0":               than("x", -1, "y"),
		"a great Op":                  than("x", math.MaxInt, "y"),
		"a least Op":                  than("x", math.MinInt, "y"),
		"an Op of 2 to the 32nd + 1":  than("x", 1<<32+1, "y"),
		"a Left of no name":           thanNum("", 1, 1),
		"a Left of no atom":           thanNum("w", 1, 1),
		"a Left that is each":         thanNum("each", 1, 1),
		"a Left that is a number":     thanNum("1", 2, 1),
		"a Right of no atom":          than("x", 1, "w"),
		"a Right that is each":        than("x", 2, "each"),
		"a Right that is a number":    than("x", 2, "1"),
		"a Right that is a blank":     than("x", 2, " "),
		"a Right with a Num":          {Left: "x", Op: 1, Right: "y", Num: 1},
		"a Right with a Num of 99":    {Left: "x", Op: 2, Right: "y", Num: 99},
		"a Right with a Num below 0":  {Left: "x", Op: 2, Right: "y", Num: -1},
		"a Num below 0":               thanNum("x", 1, -1),
		"a Num of 100":                thanNum("x", 1, 100),
		"a great Num":                 thanNum("x", 2, math.MaxInt),
		"a least Num":                 thanNum("x", 2, math.MinInt),
		"a Num of 2 to the 32nd":      thanNum("x", 2, 1<<32),
		"a wrong Op and a wrong Num":  thanNum("x", 3, 100),
		"a Right with a Num past 100": {Left: "x", Op: 1, Right: "z", Num: 101},
	}
}

func TestConstantsOfQuestions(t *testing.T) {
	got := []int{impl.OpLess, impl.OpSame, impl.MaxNames, impl.MaxAtoms}
	if want := []int{1, 2, 4, 4}; !slices.Equal(got, want) {
		t.Errorf("constants are %v; not %v", got, want)
	}
}

func TestQueryName(t *testing.T) {
	for s, want := range map[string]bool{
		"a": true, "z": true, "m": true, "ab": true, "zzz": true, "abcd": true, "eac": true, "ach": true, "eaca": true, "hcae": true, "ech": true, "eech": true, "aech": true, "h": true,
		"": false, "each": false, "abcde": false, "eachx": false, "xeach": false, "aaaaaaaa": false, "each1": false, "Each": false, "EACH": false, "eacH": false, "x1": false, "1": false, "A": false,
		" ": false, "a ": false, " a": false, "a b": false, "each ": false, " each": false, "`": false, "{": false, "a`": false, "{a": false, "a\n": false, "\x00": false, "a\x00": false, "_": false, "a-b": false,
		"é": false, "aé": false, "ａ": false, "ſ": false, "ß": false, "а": false, "\x7f": false, "\x80": false, "\xff": false, "a\xff": false, "a\xc3": false, "\u00e1": false, "\u0161": false, "a\u0301": false,
	} {
		if got := impl.QueryName(s); got != want || rightName(s) != want {
			t.Errorf("QueryName(%q) = %v; not %v", s, got, want)
		}
	}
}

func TestQueryNameOfShortTexts(t *testing.T) {
	for first := range 256 {
		one := string([]byte{byte(first)})
		for second := range 256 {
			two := one + string([]byte{byte(second)})
			for _, s := range []string{one, two, "e" + two, "ea" + two, two + "ch", "zyx" + two} {
				if got := impl.QueryName(s); got != rightName(s) {
					t.Errorf("QueryName(%q) = %v", s, got)
				}
			}
		}
	}
}

func TestQueryNameOfEachLength(t *testing.T) {
	for _, length := range []int{0, 1, 2, 3, 4, 5, 6, 8, 16, 256, 257, 260, 65536, 1000000} {
		if got := impl.QueryName(strings.Repeat("q", length)); got != (length >= 1 && length <= 4) {
			t.Errorf("QueryName of %d letters = %v", length, got)
		}
	}
}

// TestQueryNameOfEachRune has no rune that folds to a letter, or is written wider, told as one.
func TestQueryNameOfEachRune(t *testing.T) {
	for sign := rune(0); sign <= 0x10ffff; sign++ {
		if got := impl.QueryName(string(sign)); got != (sign >= 'a' && sign <= 'z') {
			t.Errorf("QueryName(%q) = %v", string(sign), got)
		}
	}
}

func TestNamesOfThatAreKnown(t *testing.T) {
	for _, c := range []struct {
		q    impl.Query
		want []string
	}{
		{query("x"), nil},
		{query("x", atom("x", "a", "y")), []string{"x", "y"}},
		{query("x", atom("y", "a", "x")), []string{"y", "x"}},
		{query("x", atom("x", "a", "x")), []string{"x"}},
		{query("x", atom("x", "a", "y"), atom("x", "b", "y")), []string{"x", "y"}},
		{query("x", atom("x", "a", "y"), atom("y", "b", "x")), []string{"x", "y"}},
		{query("x", atom("b", "a", "d"), atom("a", "b", "c")), []string{"b", "d", "a", "c"}},
		{query("x", atom("b", "a", "b"), atom("a", "b", "b"), atom("c", "b", "a")), []string{"b", "a", "c"}},
		{withFilters(query("q r s", atom("z", "a", "y")), than("u", 1, "v")), []string{"z", "y"}},
		{chainQuery("v", "u", "t", "s", "r", "q", "u", "p"), []string{"v", "u", "t", "s", "r", "q", "p"}},
		{query("", atom("each", "", "X"), atom("", "a", "each"), atom("\xff", "a", "\xff")), []string{"each", "X", "", "\xff"}},
	} {
		if got := impl.NamesOf(c.q); !slices.Equal(got, c.want) {
			t.Errorf("NamesOf(%+v) = %q; not %q", c.q, got, c.want)
		}
		checkNamesOf(t, c.q)
	}
}

func TestNamesOf(t *testing.T) {
	for _, q := range slices.Concat(rightQueries(), drawnQueries(500, 3)) {
		checkNamesOf(t, q)
	}
	for _, q := range wrongQueries() {
		checkNamesOf(t, q)
	}
}

func TestNamesOfManyAtoms(t *testing.T) {
	q, want := impl.Query{}, []string{}
	for i := range 50000 {
		q.Atoms = append(q.Atoms, atom(strconv.Itoa(2*i), "a", strconv.Itoa(2*i+1)), atom("0", "b", strconv.Itoa(i)))
		want = append(want, strconv.Itoa(2*i), strconv.Itoa(2*i+1))
	}
	if got := impl.NamesOf(q); !slices.Equal(got, want) {
		t.Errorf("NamesOf of many atoms tells %d names; not %d", len(got), len(want))
	}
}

func TestQueryOk(t *testing.T) {
	for i, q := range rightQueries() {
		checkQueryOk(t, fmt.Sprint("right ", i), q, true)
	}
	for i, q := range drawnQueries(2000, 5) {
		checkQueryOk(t, fmt.Sprint("drawn ", i), q, true)
	}
	for name, q := range wrongQueries() {
		checkQueryOk(t, name, q, false)
		checkQueryOk(t, name+", with each", withEach(q), false)
	}
}

func TestQueryOkAtTheMostNamesAtomsAndFilters(t *testing.T) {
	names := []string{"a", "b", "c", "d", "e", "f", "g", "h"}
	for count := 2; count <= 5; count++ {
		checkQueryOk(t, fmt.Sprint(count, " names"), chainQuery(names[:count]...), count <= 4)
		q := query("a", atom("a", "a", "b"), atom(names[count-2], "a", names[count-1]), atom("c", "a", "a"))
		checkQueryOk(t, fmt.Sprint(len(namesByHand(q)), " names of three atoms"), q, len(namesByHand(q)) <= 4)
	}
	for count := range 7 {
		q := impl.Query{Out: []string{"a"}, Atoms: slices.Repeat([]impl.Atom{atom("a", "b*", "c")}, count)}
		checkQueryOk(t, fmt.Sprint(count, " atoms"), q, count >= 1 && count <= 4)
		for most := range 5 {
			q.Filters = slices.Repeat([]impl.Filter{than("a", 1, "c")}, most)
			checkQueryOk(t, fmt.Sprint(count, " atoms, ", most, " filters"), q, count >= 1 && count <= 4 && most <= 3)
		}
	}
	for count := range 6 {
		q := chainQuery("a", "b", "c", "d")
		q.Out = []string{"d", "b", "c", "a", "b"}[:count]
		checkQueryOk(t, fmt.Sprint(count, " in Out"), q, count >= 1 && count <= 4)
	}
}

func TestQueryOkOfEachOpAndNum(t *testing.T) {
	for op := -2; op <= 5; op++ {
		for num := -3; num <= 103; num++ {
			right := op == 1 || op == 2
			checkQueryOk(t, "a filter with a number", withFilters(query("x", atom("x", "a", "y")), thanNum("y", op, num)), right && num >= 0 && num <= 99)
			named := impl.Filter{Left: "x", Op: op, Right: "y", Num: num}
			checkQueryOk(t, "a filter with a name", withFilters(query("x", atom("x", "a", "y")), named), right && num == 0)
		}
	}
}

func TestQueryOkOfEachPathText(t *testing.T) {
	d := drawing{7}
	for range 3000 {
		text := drawnPathText(&d, 3)
		q := query("y", atom("y", text, "y"))
		checkQueryOk(t, "a drawn path", q, len(text) <= 20)
		cut := text[:d.below(len(text))]
		_, ok := readPathByHand(cut)
		checkQueryOk(t, "a path that is cut", query("y", atom("y", cut, "y")), ok)
	}
	for count := 1; count <= 25; count++ {
		checkQueryOk(t, "a path of steps alone", query("y", atom("y", strings.Repeat("d", count), "y")), count <= 20)
	}
}

func TestReadQueryThatIsKnown(t *testing.T) {
	xy := atom("x", "a", "y")
	for text, want := range map[string]impl.Query{
		"x : x [a] y":                           query("x", xy),
		"each x : x [a] y":                      withEach(query("x", xy)),
		"x, y : x [a] y":                        query("x y", xy),
		"each y, x : x [a] y":                   withEach(query("y x", xy)),
		"abcd : abcd [ab*] eac":                 query("abcd", atom("abcd", "ab*", "eac")),
		"x : x [a] y, y [b] z":                  query("x", xy, atom("y", "b", "z")),
		"x : x [a] y, x < y":                    withFilters(query("x", xy), than("x", 1, "y")),
		"x : x [a] y, y = x":                    withFilters(query("x", xy), than("y", 2, "x")),
		"x : x [a] y, x < 7":                    withFilters(query("x", xy), thanNum("x", 1, 7)),
		"x : x [a] y, y = 0":                    withFilters(query("x", xy), thanNum("y", 2, 0)),
		"x : x [a] y, y = 99, x < 10":           withFilters(query("x", xy), thanNum("y", 2, 99), thanNum("x", 1, 10)),
		"x : x < y, x [a] y":                    withFilters(query("x", xy), than("x", 1, "y")),
		"x : x < y, x [a] y, y = 3, y [b] z":    withFilters(query("x", xy, atom("y", "b", "z")), than("x", 1, "y"), thanNum("y", 2, 3)),
		"z : x [(ab)*|c] y, y [((a|b)+c)?] z":   query("z", atom("x", "(ab)*|c", "y"), atom("y", "((a|b)+c)?", "z")),
		"x : x [((a))] x":                       query("x", atom("x", "((a))", "x")),
		"each e : e [a] ach, ach [b] h, h = 12": withEach(withFilters(query("e", atom("e", "a", "ach"), atom("ach", "b", "h")), thanNum("h", 2, 12))),
		"eac : eac [a] h":                       query("eac", atom("eac", "a", "h")),
		"each each":                             {},
	} {
		if want.Out == nil {
			checkNotAsked(t, text)
		} else {
			checkAsked(t, text, want)
		}
	}
}

var wrongQuestions = []string{
	"", " ", "x", "x :", ": x [a] y", "x x [a] y", "x : [a] y", "x : x [a]", "x : x [] y", "x : x a y", "x : x [a y", "x : x a] y", "x : x ]a[ y", "x : x [[a]] y", "x : x (a) y", "x : [a]", ":", ",", "each", "each :", "[a]",
	"each : x [a] y", "each, x : x [a] y", "each,x:x[a]y", "x, each : x [a] y", "x each : x [a] y", "each each : x [a] y", "each each x : x [a] y", "each each : each [a] each", "x : each [a] y", "x : x [a] each", "x : each x [a] y",
	"x : x [a] y, x < each", "each : each [a] each", "each: each[a]x", "x : x [a] y each", "Each x : x [a] y", "EACH x : x [a] y", "eachx : x [a] y", "eachxy:xy[a]y", "each,: x [a] y", "each\tx : x [a] y", "each1 x : x [a] y", "eache x : x [a] y", "eac x : x [a] y", "for x : x [a] y",
	"x, : x [a] y", ", x : x [a] y", "x,,y : x [a] y", "x y : x [a] y", "x, x : x [a] y", "z : x [a] y", "x, y, z : x [a] y", "x; y : x [a] y", "x, y, z, w, x : x [a] y, z [b] w",
	"x : x [a] y,", "x : , x [a] y", "x : x [a] y,, y [b] z", "x : x [a] y y [b] z", "x : x [a] y; y [b] z", "x :: x [a] y", "x : : x [a] y", "x : x [a] y :", "x : x [a] y : y [b] z", "x : x [a] y.", "x : x [a] y [b] z",
	"x : x < y", "x : x < 7", "x : x [a] y, x", "x : x [a] y, x <", "x : x [a] y, < y", "x : x [a] y, x y", "x : x [a] y, x > y", "x : x [a] y, x <= y", "x : x [a] y, x << y", "x : x [a] y, x == y", "x : x [a] y, x = = y", "x : x [a] y, x =< y", "x : x [a] y, x < y < x", "x : x [a] y, 7 < x", "x : x [a] y, 7 = 7",
	"x : x [a] y, x <= 7", "x : x [a] y, x ! y", "x : x [a] y, x != y", "x : x [a] y, x : y", "x : x [a] y, x , y", "x : x [a] y, z < x", "x : x [a] y, x = z",
	"x : x [a] y, x < 100", "x : x [a] y, x = 000", "x : x [a] y, x = 007", "x : x [a] y, x = 0x7", "x : x [a] y, x = 7x", "x : x [a] y, x = x7", "x : x [a] y, x = y7", "x : x [a] y, x = 7 7", "x : x [a] y, x = -1", "x : x [a] y, x = +1", "x : x [a] y, x = 1.5", "x : x [a] y, x = 1e1", "x : x [a] y, x = 99999999999999999999", "x : x [a] y, x = ٣", "x : x [a] y, x = ７",
	"x : x [ab|] y", "x : x [e] y", "x : x [a b] y", "x : x [ a] y", "x : x [a ] y", "x : x [ ] y", "x : x [ab\t] y", "x : x [a,b] y", "x : x [a:b] y", "x : x [a]] y", "x : x [[a] y", "x : x [a][b] y", "x : x [é] y", "x : x [\xff] y", "x : x [aaaaaaaaaaaaaaaaaaaaa] y", "x : x [a", "x : x [", "x : x [a] y, y [b", "x : x [a|b) y",
	"abcde : abcde [a] y", "x : x [a] abcde", "X : X [a] y", "x1 : x1 [a] y", "1 : 1 [a] y", "x-y : x-y [a] y", "é : é [a] y", "x : x [a] é", "\xff : x [a] y", "x\xff : x [a] y", "x : x [a] y\xff", "x : x [a] y\x80", "\xefx : x [a] y", "x : x [a] y\x00", "\x00x : x [a] y", "ｘ : ｘ [a] y", "x ： x [a] y", "x : x ［a］ y", "x : x [a] y， x < y", "x : x [a] y, x ＜ y",
	"a : a [a] b, b [a] c, c [a] d, d [a] e", "x : x [a] x, x [a] x, x [a] x, x [a] x, x [a] x", "x : x [a] y, x < 1, x < 2, x < 3, x < 4",
}

func TestReadQueryOfWrongTexts(t *testing.T) {
	for _, text := range wrongQuestions {
		checkNotAsked(t, text)
		checkNotAsked(t, "each "+text)
		checkNotAsked(t, text+" ")
	}
}

// TestEachTextThatIsCut has no beginning and no end of a question told as something that it isn't.
func TestEachTextThatIsCut(t *testing.T) {
	for _, q := range slices.Concat(rightQueries()[:20], drawnQueries(40, 9)) {
		text, _ := showQueryByHand(withEach(q))
		for at := range text {
			checkReadQuery(t, text[:at])
			checkReadQuery(t, text[at:])
			checkReadQuery(t, text[:at]+text[at+1:])
			checkReadQuery(t, text[:at]+text[at:at+1]+text[at:])
		}
	}
}

func TestReadQueryOfDrawnFaults(t *testing.T) {
	d := drawing{11}
	signs := " ,:[]<=|()*+?abcdexyzh01279\t\x00\xff\xc3\xa9EA.;"
	for _, q := range drawnQueries(3000, 13) {
		text, _ := showQueryByHand(q)
		if len(text) == 0 {
			continue
		}
		if d.below(2) == 0 {
			text = strings.ReplaceAll(text, " ", strings.Repeat(" ", d.below(3)))
		}
		for range 1 + d.below(3) {
			at, sign := d.below(len(text)+1), signs[d.below(len(signs)):][:1]
			behind := text[min(at+d.below(2), len(text)):]
			text = text[:at] + sign + behind
		}
		checkReadQuery(t, text)
	}
}

func TestReadQueryWithEachByteInEachPlace(t *testing.T) {
	for _, text := range []string{"each x, y : x [a*] y, x < y, y = 7", "each x,y:x[a*]y,x<y,y=17"} {
		for at := range len(text) + 1 {
			for b := range 256 {
				sign := string([]byte{byte(b)})
				checkReadQuery(t, text[:at]+sign+text[at:])
				if at < len(text) {
					checkReadQuery(t, text[:at]+sign+text[at+1:])
				}
			}
		}
	}
}

// thingsOf cuts a question into what blanks may stand between; `each` has one behind it that it needs.
func thingsOf(text string) []string {
	return regexp.MustCompile(`each |\[[^]]*\]|[a-z]+|[0-9]+|[,:<=]`).FindAllString(text, -1)
}

func TestBlanksBetweenAllThings(t *testing.T) {
	d := drawing{17}
	for _, q := range slices.Concat(rightQueries(), drawnQueries(300, 19)) {
		shown, ok := showQueryByHand(q)
		if !ok {
			continue
		}
		things := thingsOf(shown)
		none := strings.Join(things, "")
		checkAsked(t, none, q)
		for _, blanks := range []string{" ", "  ", "   "} {
			if text := blanks + strings.Join(things, blanks) + blanks; len(text) <= 200 {
				checkAsked(t, text, q)
			}
		}
		for range 3 {
			text := strings.Repeat(" ", d.below(3))
			for _, thing := range things {
				text += thing + strings.Repeat(" ", d.below(3))
			}
			if len(text) <= 200 {
				checkAsked(t, text, q)
			}
		}
		for at := range len(things) + 1 {
			text := strings.Join(things[:at], "") + "   " + strings.Join(things[at:], "")
			if len(text) <= 200 {
				checkAsked(t, text, q)
			}
		}
	}
}

func TestOtherSignsAreNoBlanks(t *testing.T) {
	things := thingsOf("each x, y : x [ab] y, x < y, y = 17")
	for _, sign := range []string{"\t", "\n", "\r", "\v", "\f", "\x00", "\x1f", "\x7f", "\u00a0", "\u0085", "\u2003", "\u200b", "\u3000", "\ufeff", "\xa0", "\x20\x09", "_", "+"} {
		for at := range len(things) + 1 {
			checkNotAsked(t, strings.Join(things[:at], " ")+sign+strings.Join(things[at:], " "))
			checkNotAsked(t, strings.Join(things[:at], " ")+" "+sign+" "+strings.Join(things[at:], " "))
		}
	}
}

func TestBlanksWithinAThing(t *testing.T) {
	for _, text := range []string{
		"ea ch x : x [a] y", "e ach x : x [a] y", "x y : xy [a] z", "xy : x y [a] z", "xy : xy [a] z z", "x : x [a] y, x = 1 2", "x : x [a] y, x < 1 0", "x : x [ a] y", "x : x [a ] y", "x : x [ a ] y", "x : x [a b] y", "x : x [(a| b)] y", "x : x [a *] y", "x : x [a  ] y", "x : x [  ] y",
	} {
		checkNotAsked(t, text)
	}
}

func TestEachNeedsABlank(t *testing.T) {
	y := atom("y", "a", "y")
	checkAsked(t, "each y:y[a]y", withEach(query("y", y)))
	checkAsked(t, "each    y:y[a]y", withEach(query("y", y)))
	checkAsked(t, "   each y:y[a]y", withEach(query("y", y)))
	for _, text := range []string{"eachy:y[a]y", "eachy:eachy[a]y", "each,y:y[a]y", "each:y[a]y", "each\ty:y[a]y", "each\u00a0y:y[a]y", "(each)y:y[a]y", "each.y:y[a]y", "eacheach y:y[a]y"} {
		checkNotAsked(t, text)
	}
	for _, name := range []string{"e", "ea", "eac", "ach", "ech", "eacg", "eaca"} {
		checkAsked(t, name+":"+name+"[a]y", query(name, atom(name, "a", "y")))
		checkAsked(t, "each "+name+":"+name+"[a]y", withEach(query(name, atom(name, "a", "y"))))
	}
}

func TestReadQueryOfEachNumber(t *testing.T) {
	for num := range 1200 {
		q := withFilters(query("x", atom("x", "a", "y")), thanNum("x", 1, num))
		text := "x : x [a] y, x < " + strconv.Itoa(num)
		if num > 99 {
			checkNotAsked(t, text)
		} else {
			checkAsked(t, text, q)
		}
		if num <= 9 {
			checkAsked(t, "x:x[a]y,x<0"+strconv.Itoa(num), q)
			checkNotAsked(t, "x:x[a]y,x<00"+strconv.Itoa(num))
		}
	}
}

func TestReadQueryAtTheLimit(t *testing.T) {
	q := withEach(withFilters(query("x y", atom("x", "ab*", "y")), than("x", 1, "y"), thanNum("y", 2, 7)))
	text, _ := showQueryByHand(q)
	for length := 190; length <= 210; length++ {
		blanks := strings.Repeat(" ", length-len(text))
		for _, long := range []string{text + blanks, blanks + text, strings.Replace(text, ":", blanks+":", 1), strings.Replace(text, "each", "each"+blanks, 1), strings.Replace(text, "7", blanks+"7", 1)} {
			if len(long) != length {
				t.Fatalf("the test itself is wrong: %q has %d bytes", long, len(long))
			}
			if length <= 200 {
				checkAsked(t, long, q)
			} else {
				checkNotAsked(t, long)
			}
		}
	}
	for _, great := range []string{text + strings.Repeat(" ", 5000000), strings.Repeat("x", 5000000), strings.Repeat("[", 5000000), strings.Repeat("x,", 2500000), "x : " + strings.Repeat("x [a] x, ", 500000) + "x [a] x"} {
		if got, ok := impl.ReadQuery(great); ok || !isNoQuery(got) {
			t.Errorf("a text of %d bytes is a question", len(great))
		}
	}
}

func TestShowQueryThatIsKnown(t *testing.T) {
	xy := atom("x", "a", "y")
	for want, q := range map[string]impl.Query{
		"x : x [a] y":                        query("x", xy),
		"each x : x [a] y":                   withEach(query("x", xy)),
		"y, x : x [a] y":                     query("y x", xy),
		"each y, x : x [a] y":                withEach(query("y x", xy)),
		"x : x [((a))] y, y [b|c] z":         query("x", atom("x", "((a))", "y"), atom("y", "b|c", "z")),
		"x : x [a] y, x < y":                 withFilters(query("x", xy), than("x", 1, "y")),
		"x : x [a] y, y = x":                 withFilters(query("x", xy), than("y", 2, "x")),
		"x : x [a] y, x < 0, y = 9":          withFilters(query("x", xy), thanNum("x", 1, 0), thanNum("y", 2, 9)),
		"x : x [a] y, x = 99, y < 10, y = y": withFilters(query("x", xy), thanNum("x", 2, 99), thanNum("y", 1, 10), than("y", 2, "y")),
		"each w, z, y, x : x [a] y, z [(ab)*|c] w, x [a] y, x = 1": withEach(withFilters(query("w z y x", xy, atom("z", "(ab)*|c", "w"), xy), thanNum("x", 2, 1))),
	} {
		if got, ok := impl.ShowQuery(q); !ok || got != want {
			t.Errorf("ShowQuery(%+v) = %q, %v; not %q", q, got, ok, want)
		}
		checkShowQuery(t, q)
	}
}

func TestQuestionsComeBackFromWhatIsShown(t *testing.T) {
	for _, q := range slices.Concat(rightQueries(), drawnQueries(5000, 23)) {
		checkShowQuery(t, q)
		checkShowQuery(t, withEach(q))
	}
}

func TestShowQueryOfWrongQuestions(t *testing.T) {
	for name, q := range wrongQueries() {
		if text, ok := impl.ShowQuery(q); ok || text != "" {
			t.Errorf("ShowQuery of %s = %q, %v; not refused", name, text, ok)
		}
		checkShowQuery(t, q)
	}
}

// longQuery is the one of which most is shown, 203 bytes, with the paths so many bytes shorter.
func longQuery(less int) impl.Query {
	q := withEach(query("abcd bcde cdef defg", atom("abcd", "", "bcde"), atom("cdef", "", "defg"), atom("abcd", "", "defg"), atom("bcde", "", "cdef")))
	q.Filters = []impl.Filter{than("abcd", 1, "defg"), than("bcde", 2, "cdef"), than("defg", 1, "abcd")}
	for i := range q.Atoms {
		take := min(less, 19)
		q.Atoms[i].Path = strings.Repeat("abcd", 5)[take:]
		less -= take
	}
	return q
}

func TestShowQueryAtTheLimit(t *testing.T) {
	for less := range 60 {
		q := longQuery(less)
		text, ok := impl.ShowQuery(q)
		if want := 203 - less; ok != (want <= 200) || ok && len(text) != want || !ok && text != "" {
			t.Errorf("of a question that is shown in %d bytes ShowQuery tells %d, %v", want, len(text), ok)
		}
		checkQueryOk(t, "a long question", q, true)
		checkShowQuery(t, q)
		q.Each = false
		checkShowQuery(t, q)
		q.Filters[2] = thanNum("abcd", 2, 50)
		checkShowQuery(t, withEach(q))
	}
}

// otherQueries differ from the one that is given in one thing each.
func otherQueries(q impl.Query) []impl.Query {
	out := []impl.Query{}
	add := func(change func(q *impl.Query)) {
		other := roomyQuery(q)
		change(&other)
		out = append(out, other)
	}
	add(func(q *impl.Query) { q.Each = !q.Each })
	add(func(q *impl.Query) { q.Out = append(q.Out, "x") })
	add(func(q *impl.Query) { q.Atoms = append(q.Atoms, atom("x", "a", "y")) })
	add(func(q *impl.Query) { q.Filters = append(q.Filters, than("x", 1, "y")) })
	add(func(q *impl.Query) { q.Out = append([]string{"w"}, q.Out...) })
	for i := range q.Out {
		add(func(q *impl.Query) { q.Out[i] += "x" })
		add(func(q *impl.Query) { q.Out = slices.Delete(q.Out, i, i+1) })
	}
	for i := range q.Atoms {
		add(func(q *impl.Query) { q.Atoms[i].From += "x" })
		add(func(q *impl.Query) { q.Atoms[i].Path = "(" + q.Atoms[i].Path + ")" })
		add(func(q *impl.Query) { q.Atoms[i].To += "x" })
		add(func(q *impl.Query) { q.Atoms = slices.Delete(q.Atoms, i, i+1) })
	}
	for i := range q.Filters {
		add(func(q *impl.Query) { q.Filters[i].Left += "x" })
		add(func(q *impl.Query) { q.Filters[i].Op = 3 - q.Filters[i].Op })
		add(func(q *impl.Query) { q.Filters[i].Right += "x" })
		add(func(q *impl.Query) { q.Filters[i].Num++ })
		add(func(q *impl.Query) { q.Filters = slices.Delete(q.Filters, i, i+1) })
	}
	return out
}

func TestSameQuery(t *testing.T) {
	wrong := []impl.Query{{}, {Each: true}, query("x y x", atom("each", "", "")), withFilters(query("", atom("", "a|", "x")), impl.Filter{Op: 7, Right: "a", Num: -1})}
	for _, q := range slices.Concat(rightQueries(), drawnQueries(300, 29), wrong) {
		checkSameQuery(t, q, q, true)
		for _, other := range otherQueries(q) {
			checkSameQuery(t, q, other, false)
		}
	}
	ordered := withFilters(query("x y", atom("x", "a", "y"), atom("y", "b", "x")), than("x", 1, "y"), thanNum("x", 2, 7))
	turn := roomyQuery(ordered)
	slices.Reverse(turn.Out)
	checkSameQuery(t, ordered, turn, false)
	turn = roomyQuery(ordered)
	slices.Reverse(turn.Atoms)
	checkSameQuery(t, ordered, turn, false)
	turn = roomyQuery(ordered)
	slices.Reverse(turn.Filters)
	checkSameQuery(t, ordered, turn, false)
}

func TestSameQueryOfEmptyListsAndNil(t *testing.T) {
	empty := impl.Query{Out: []string{}, Atoms: []impl.Atom{}, Filters: []impl.Filter{}}
	if !impl.SameQuery(impl.Query{}, empty) || !impl.SameQuery(empty, impl.Query{}) {
		t.Error("a question of empty lists is not the same as one of no lists")
	}
	q := query("x", atom("x", "a", "y"))
	other := q
	other.Filters = []impl.Filter{}
	if !impl.SameQuery(q, other) || !impl.QueryOk(other) {
		t.Error("a question with an empty list of filters is another one")
	}
}

func TestSwappedThatIsKnown(t *testing.T) {
	for path, want := range map[string]string{
		"a": "a", "ab": "ba", "ab*": "b*a", "abc": "cba", "a|b": "a|b", "ab|cd": "ba|dc", "(ab)*": "(ba)*", "(ab)c": "c(ba)", "a(bc)": "(cb)a", "((a))": "a", "(a)b": "ba", "a*": "a*", "a**": "a**", "a+?b": "ba+?",
		"(a|b)|c": "(a|b)|c", "(ab|c)*d": "d(ba|c)*", "((a|b)+c)?": "(c(a|b)+)?", "a(b(cd))": "((dc)b)a", "(((a|b)))c": "c(a|b)", "((ab))": "ba", "(a*)*b": "ba**",
	} {
		q := withEach(withFilters(query("y x", atom("z", "d", "z"), atom("x", path, "y")), than("x", 1, "y")))
		wanted := withEach(withFilters(query("y x", atom("z", "d", "z"), atom("y", want, "x")), than("x", 1, "y")))
		if got, ok := impl.Swapped(q, 1); !ok || !sameQuery(got, wanted) {
			t.Errorf("Swapped(%+v, 1) = %+v, %v; not %+v", q, got, ok, wanted)
		}
		checkSwapped(t, q, 1)
	}
}

func TestSwapped(t *testing.T) {
	for _, q := range slices.Concat(rightQueries(), drawnQueries(1500, 31)) {
		for _, k := range []int{math.MinInt, -1, 0, 1, 2, 3, 4, math.MaxInt} {
			checkSwapped(t, q, k)
		}
	}
	for less := range 5 {
		checkSwapped(t, longQuery(less), less)
	}
}

func TestSwappedOfWrongQuestions(t *testing.T) {
	for name, q := range wrongQueries() {
		for _, k := range []int{-1, 0, 1, 4} {
			if got, ok := impl.Swapped(q, k); ok || !sameQuery(got, q) {
				t.Errorf("Swapped of %s at %d = %+v, %v; not as it is", name, k, got, ok)
			}
		}
		checkSwapped(t, q, 0)
	}
}

// TestSwappedLeadsBack asks the atom that is swapped in the graph that is turned; swapped again it leads as it did.
func TestSwappedLeadsBack(t *testing.T) {
	graphs := graphsToLead(20, 37)
	for i, q := range drawnQueries(1500, 41) {
		k := i % len(q.Atoms)
		g := graphs[i%len(graphs)]
		swapped, ok := impl.Swapped(q, k)
		again, againOk := impl.Swapped(swapped, k)
		if !ok || !againOk {
			t.Fatalf("Swapped(%+v, %d) = %+v, %v, and again %+v, %v", q, k, swapped, ok, again, againOk)
		}
		want := [][]int{}
		for _, pair := range pairsByHand(g, mustRead(t, q.Atoms[k].Path)) {
			want = append(want, []int{pair[1], pair[0]})
		}
		slices.SortFunc(want, slices.Compare[[]int])
		if got := pairsByHand(turnedByHand(g), mustRead(t, swapped.Atoms[k].Path)); !slices.EqualFunc(got, want, slices.Equal[[]int]) {
			t.Errorf("of %v, %q back: %v; not %v", g, swapped.Atoms[k], got, want)
		}
		p, _ := readPathByHand(q.Atoms[k].Path)
		shown, _ := showPathByHand(p)
		q = roomyQuery(q)
		q.Atoms[k].Path = shown
		if !sameQuery(again, q) {
			t.Errorf("swapped twice it is %+v; not %+v", again, q)
		}
	}
}

func TestShowPathThatIsKnown(t *testing.T) {
	a, b, c := stepOf('a'), stepOf('b'), stepOf('c')
	for want, p := range map[string]impl.Path{
		"a":              path(a),
		"d":              path(stepOf('d')),
		"ab":             path(a, b, rowOf(0, 1)),
		"ba":             path(a, b, rowOf(1, 0)),
		"aa":             path(a, rowOf(0, 0)),
		"aaa":            path(a, rowOf(0, 0, 0)),
		"a|b":            path(a, b, altOf(0, 1)),
		"a|a|b|a":        path(a, b, altOf(0, 0, 1, 0)),
		"a*":             path(a, starOf(0)),
		"a+":             path(a, plusOf(0)),
		"a?":             path(a, optOf(0)),
		"a*+?":           path(a, starOf(0), plusOf(1), optOf(2)),
		"a?+*":           path(a, optOf(0), plusOf(1), starOf(2)),
		"a**":            path(a, starOf(0), starOf(1)),
		"(ab)*":          path(a, b, rowOf(0, 1), starOf(2)),
		"(ab)+":          path(a, b, rowOf(0, 1), plusOf(2)),
		"(ab)?":          path(a, b, rowOf(0, 1), optOf(2)),
		"(a|b)*":         path(a, b, altOf(0, 1), starOf(2)),
		"(a|b)+":         path(a, b, altOf(0, 1), plusOf(2)),
		"(a|b)?":         path(a, b, altOf(0, 1), optOf(2)),
		"(ab)c":          path(a, b, rowOf(0, 1), c, rowOf(2, 3)),
		"c(ab)":          path(a, b, rowOf(0, 1), c, rowOf(3, 2)),
		"(ab)(ab)":       path(a, b, rowOf(0, 1), rowOf(2, 2)),
		"((ab)c)d":       path(a, b, rowOf(0, 1), c, rowOf(2, 3), stepOf('d'), rowOf(4, 5)),
		"(a|b)c":         path(a, b, altOf(0, 1), c, rowOf(2, 3)),
		"ab|c":           path(a, b, rowOf(0, 1), c, altOf(2, 3)),
		"c|ab":           path(a, b, rowOf(0, 1), c, altOf(3, 2)),
		"ab|ab":          path(a, b, rowOf(0, 1), altOf(2, 2)),
		"(ab)c|d":        path(a, b, rowOf(0, 1), c, rowOf(2, 3), stepOf('d'), altOf(4, 5)),
		"(a|b)|c":        path(a, b, altOf(0, 1), c, altOf(2, 3)),
		"c|(a|b)":        path(a, b, altOf(0, 1), c, altOf(3, 2)),
		"(a|b)|(a|b)":    path(a, b, altOf(0, 1), altOf(2, 2)),
		"((a|b)|c)*":     path(a, b, altOf(0, 1), c, altOf(2, 3), starOf(4)),
		"a*b":            path(a, starOf(0), b, rowOf(1, 2)),
		"a*|b":           path(a, starOf(0), b, altOf(1, 2)),
		"a*a+a?":         path(a, starOf(0), plusOf(0), optOf(0), rowOf(1, 2, 3)),
		"(ab)*|c":        path(a, b, rowOf(0, 1), starOf(2), c, altOf(3, 4)),
		"(ab)*c":         path(a, b, rowOf(0, 1), starOf(2), c, rowOf(3, 4)),
		"((a|b)+c)?|aa":  path(a, b, altOf(0, 1), plusOf(2), c, rowOf(3, 4), optOf(5), rowOf(0, 0), altOf(6, 7)),
		"c":              path(a, b, rowOf(0, 1), c),
		"(((ab)c)d)*a":   path(a, b, rowOf(0, 1), c, rowOf(2, 3), stepOf('d'), rowOf(4, 5), starOf(6), rowOf(7, 0)),
		"(((a|b)|c)|a)b": path(a, b, altOf(0, 1), c, altOf(2, 3), altOf(4, 0), rowOf(5, 1)),
	} {
		if got, ok := impl.ShowPath(p); !ok || got != want {
			t.Errorf("ShowPath(%v) = %q, %v; not %q", p, got, ok, want)
		}
		checkShowPath(t, p)
	}
}

// TestShowPathOfEachKid has a kid of each kind in each place of each kind.
func TestShowPathOfEachKid(t *testing.T) {
	ahead := []impl.Piece{stepOf('a'), stepOf('b'), rowOf(0, 1), altOf(0, 1), starOf(0), plusOf(1), optOf(2), rowOf(2, 3), altOf(2, 3), starOf(2), plusOf(3), optOf(0)}
	alone := []string{"a", "b", "(ab)", "(a|b)", "a*", "b+", "(ab)?", "((ab)(a|b))", "(ab|(a|b))", "(ab)*", "(a|b)+", "a?"}
	inAlt := slices.Clone(alone)
	inAlt[2], inAlt[7] = "ab", "(ab)(a|b)"
	check := func(piece impl.Piece, want string) {
		t.Helper()
		p := path(append(slices.Clone(ahead), piece)...)
		if got, ok := impl.ShowPath(p); !ok || got != want {
			t.Errorf("ShowPath(%v) = %q, %v; not %q", p, got, ok, want)
		}
		checkShowPath(t, p)
	}
	for kid := range ahead {
		check(starOf(kid), alone[kid]+"*")
		check(plusOf(kid), alone[kid]+"+")
		check(optOf(kid), alone[kid]+"?")
		check(rowOf(kid, 0), alone[kid]+"a")
		check(rowOf(1, kid), "b"+alone[kid])
		check(rowOf(1, kid, 0), "b"+alone[kid]+"a")
		check(altOf(kid, 0), inAlt[kid]+"|a")
		check(altOf(1, kid), "b|"+inAlt[kid])
		check(altOf(1, kid, 0), "b|"+inAlt[kid]+"|a")
	}
}

func TestPathsComeBackFromWhatIsShown(t *testing.T) {
	for _, text := range rightPathTexts {
		p := mustRead(t, text)
		checkShowPath(t, p)
		checkComesBack(t, p)
	}
	d := drawing{43}
	for range 5000 {
		if p, ok := readPathByHand(drawnPathText(&d, 3)); ok {
			checkShowPath(t, p)
			checkComesBack(t, p)
		}
	}
	for _, p := range drawnPaths(5000, 47) {
		checkShowPath(t, p)
		checkShowPath(t, turnedPathByHand(p))
	}
}

// checkComesBack is for paths whose pieces stand as they are read, each a kid once: these come back as what they were.
func checkComesBack(t *testing.T, p impl.Path) {
	t.Helper()
	text, _ := impl.ShowPath(p)
	if again, ok := impl.ReadPath(text); !ok || !samePath(again, p) {
		t.Errorf("%v comes back as %v, %v from %q", p, again, ok, text)
	}
}

func TestPathsThatAreShownLeadToTheSame(t *testing.T) {
	checkManyPaths(t, func(t *testing.T, g impl.Graph, p impl.Path) {
		t.Helper()
		text, ok := impl.ShowPath(p)
		if !ok {
			return
		}
		want := pairsByHand(g, p)
		if got := pairsByHand(g, mustRead(t, text)); !slices.EqualFunc(got, want, slices.Equal[[]int]) {
			t.Fatalf("%v leads to %v in %v; what is shown, %q, to %v", p, want, g, text, got)
		}
	})
}

// TestShowPathHasNoNeedlessBrackets asks of all short texts for the shortest one that is read as the same.
func TestShowPathHasNoNeedlessBrackets(t *testing.T) {
	shortest := map[string]string{}
	texts := wordsByHand("ab()|*", 7)
	for _, text := range texts {
		if p, ok := impl.ReadPath(text); ok {
			if _, there := shortest[fmt.Sprint(p)]; !there {
				shortest[fmt.Sprint(p)] = text
			}
		}
	}
	for _, text := range texts {
		if p, ok := impl.ReadPath(text); ok {
			if got, ok := impl.ShowPath(p); !ok || got != shortest[fmt.Sprint(p)] {
				t.Fatalf("ShowPath(%v) = %q, %v; not %q", p, got, ok, shortest[fmt.Sprint(p)])
			}
		}
	}
}

func TestShowPathAtTheLimit(t *testing.T) {
	for count := 15; count <= 24; count++ {
		steps := slices.Repeat([]impl.Piece{stepOf('c')}, count)
		kids := kidsFrom(0, count)
		for extra, p := range map[int]impl.Path{
			0:         path(append(steps, rowOf(kids...))...),
			3:         path(append(steps, rowOf(kids...), starOf(count))...),
			4:         path(append(steps, rowOf(kids...), optOf(count), plusOf(count+1))...),
			2:         path(append(steps, rowOf(kids...), altOf(count, 0))...),
			1:         path(append(steps, starOf(count-1), rowOf(append(kids[:count-1:count-1], count)...))...),
			count - 1: path(append(steps, altOf(kids...))...),
		} {
			text, ok := impl.ShowPath(p)
			if want := count + extra; ok != (want <= 20) || ok && len(text) != want || !ok && text != "" {
				t.Errorf("ShowPath(%v) = %q, %v; it is shown in %d bytes", p, text, ok, want)
			}
			checkShowPath(t, p)
		}
		signs := longPath(count, stepOf('b'))
		if text, ok := impl.ShowPath(signs); ok != (count <= 20) || ok && text != "b"+strings.Repeat("*", count-1) {
			t.Errorf("ShowPath(%v) = %q, %v", signs, text, ok)
		}
		checkShowPath(t, signs)
	}
	for _, text := range []string{"(abcdabcdabcdabcdab)*", "(a|b|c|d|a|b|c|d|a)*", "((a|b)(c|d))+(aabc)?", "a|b|c|d|a|b|c|d|a|bc", "(a|b)|c|((ab)*|cd)+a"} {
		p, ok := readPathByHand(text)
		if got, shown := impl.ShowPath(p); ok && (!shown || got != text) {
			t.Errorf("ShowPath of the path %q = %q, %v", text, got, shown)
		}
	}
}

// TestPathsWhoseTextsWouldNeverEnd come to their step up to two to the 59th times.
func TestPathsWhoseTextsWouldNeverEnd(t *testing.T) {
	for count := 1; count <= 60; count++ {
		for _, of := range []func(kids ...int) impl.Piece{rowOf, altOf} {
			checkShowPath(t, doublingPath(count, of))
		}
		checkShowPath(t, longPath(count, stepOf('a')))
		mixed := path(stepOf('a'))
		for last := 0; len(mixed.Pieces) < count; last++ {
			mixed.Pieces = append(mixed.Pieces, []impl.Piece{rowOf(last, last), altOf(last, last), starOf(last), rowOf(last, 0, last), optOf(last)}[last%5])
		}
		checkShowPath(t, mixed)
	}
	for _, of := range []func(kids ...int) impl.Piece{rowOf, altOf} {
		for _, count := range []int{2, 9, 10, 11, 19, 20, 21, 22, 1000, 1000000} {
			checkShowPath(t, path(stepOf('a'), of(make([]int, count)...)))
		}
	}
}

// TestPiecesThatAreNotShown are so long that they would be refused if they were come to.
func TestPiecesThatAreNotShown(t *testing.T) {
	long := doublingPath(50, rowOf).Pieces
	for want, p := range map[string]impl.Path{
		"b":   path(append(slices.Clone(long), stepOf('b'))...),
		"a*":  path(append(slices.Clone(long), starOf(0))...),
		"aa":  path(append(slices.Clone(long), rowOf(0, 0))...),
		"a|a": path(append(slices.Clone(long), altOf(0, 0))...),
		"":    path(append(slices.Clone(long), altOf(0, 49))...),
		"no":  path(append(slices.Clone(long), optOf(49))...),
	} {
		if got, ok := impl.ShowPath(p); ok != (want != "" && want != "no") || ok && got != want || !ok && got != "" {
			t.Errorf("ShowPath(%v) = %q, %v; not %q", p, got, ok, want)
		}
		checkShowPath(t, p)
	}
}

func TestShowPathOfWrongPaths(t *testing.T) {
	for name, p := range wrongPaths() {
		if text, ok := impl.ShowPath(p); ok || text != "" {
			t.Errorf("ShowPath of %s = %q, %v; not refused", name, text, ok)
		}
		checkShowPath(t, p)
	}
}
