package tests

import (
	"fmt"
	"math"
	"slices"
	"strings"
	"testing"

	"loop.example/g00250/impl"
)

// table takes the Cols with blanks between.
func table(cols string, items ...impl.Item) impl.Table {
	return impl.Table{Cols: strings.Fields(cols), Bag: bag(items...)}
}

func withBag(t impl.Table, b impl.Bag) impl.Table {
	t.Bag = b
	return t
}

func withCols(t impl.Table, cols ...string) impl.Table {
	t.Cols = cols
	return t
}

// sameTable is of right tables: these tell one thing in one way alone.
func sameTable(a, b impl.Table) bool {
	return slices.Equal(a.Cols, b.Cols) && sameBag(a.Bag, b.Bag)
}

func isNoTable(t impl.Table) bool { return len(t.Cols) == 0 && len(t.Bag.Items) == 0 }

// rightTable is the chapter's sentence, clause by clause.
func rightTable(t impl.Table) bool {
	right := len(t.Cols) >= 1 && len(t.Cols) <= 4 && rightBag(t.Bag)
	for i, col := range t.Cols {
		right = right && rightName(col) && slices.Index(t.Cols, col) == i
	}
	for _, x := range t.Bag.Items {
		right = right && len(x.Row) == len(t.Cols)
	}
	return right
}

// naming is what a row tells of each name.
type naming map[string]int

func namingOf(cols []string, row []int) naming {
	n := naming{}
	for i, col := range cols {
		n[col] = row[i]
	}
	return n
}

func (n naming) row(cols []string) []int {
	row := []int{}
	for _, col := range cols {
		row = append(row, n[col])
	}
	return row
}

// tableByHand is of rows that may be too many, and there too often.
func tableByHand(cols []string, rows countedRows) (impl.Table, bool) {
	if len(cols) > 4 || len(rows) > mostBagItems {
		return impl.Table{}, false
	}
	for row, times := range rows {
		rows[row] = min(times, 1000000)
	}
	return impl.Table{Cols: cols, Bag: rows.bag(len(cols), false)}, true
}

func rightAtom(a impl.Atom) bool { return rightQuery(query(a.From, a)) }

// scanByHand goes through all pairs of vertices, and asks PathEnds of each.
func scanByHand(g impl.Graph, a impl.Atom) (impl.Table, bool) {
	if !rightGraph(g) || !rightAtom(a) {
		return impl.Table{}, false
	}
	p, _ := readPathByHand(a.Path)
	out := table(a.From + " " + a.To)
	if a.From == a.To {
		out = table(a.From)
	}
	for from := range g.Size {
		ends := impl.PathEnds(g, p, from)
		for to := range g.Size {
			if slices.Contains(ends, to) && a.From != a.To {
				out.Bag.Items = append(out.Bag.Items, item(1, from, to))
			}
			if slices.Contains(ends, to) && a.From == a.To && from == to {
				out.Bag.Items = append(out.Bag.Items, item(1, from))
			}
		}
	}
	return out, true
}

// joinByHand goes through each row of a and each of b, and holds them against each other name by name.
func joinByHand(a, b impl.Table) (impl.Table, bool) {
	if !rightTable(a) || !rightTable(b) {
		return impl.Table{}, false
	}
	cols := slices.Clone(a.Cols)
	for _, col := range b.Cols {
		if !slices.Contains(a.Cols, col) {
			cols = append(cols, col)
		}
	}
	if len(cols) > 4 {
		return impl.Table{}, false
	}
	rows := countedRows{}
	for _, x := range a.Bag.Items {
		for _, y := range b.Bag.Items {
			both, fits := namingOf(a.Cols, x.Row), true
			for col, n := range namingOf(b.Cols, y.Row) {
				if m, there := both[col]; there && m != n {
					fits = false
				}
				both[col] = n
			}
			if fits {
				rows.add(both.row(cols), x.Times*y.Times)
			}
		}
	}
	return tableByHand(cols, rows)
}

func sieveByHand(t impl.Table, f impl.Filter) (impl.Table, bool) {
	isCol := func(name string) bool { return slices.Contains(t.Cols, name) }
	if !rightTable(t) || !isCol(f.Left) || f.Right != "" && !isCol(f.Right) || f.Op != 1 && f.Op != 2 {
		return impl.Table{}, false
	}
	rows := countedRows{}
	for _, x := range t.Bag.Items {
		n := namingOf(t.Cols, x.Row)
		right := f.Num
		if f.Right != "" {
			right = n[f.Right]
		}
		if f.Op == 1 && n[f.Left] < right || f.Op == 2 && n[f.Left] == right {
			rows.add(x.Row, x.Times)
		}
	}
	return tableByHand(t.Cols, rows)
}

func projectByHand(t impl.Table, cols []string) (impl.Table, bool) {
	right := rightTable(t) && len(cols) > 0
	for i, col := range cols {
		right = right && slices.Contains(t.Cols, col) && slices.Index(cols, col) == i
	}
	if !right {
		return impl.Table{}, false
	}
	rows := countedRows{}
	for _, x := range t.Bag.Items {
		rows.add(namingOf(t.Cols, x.Row).row(cols), x.Times)
	}
	return tableByHand(cols, rows)
}

func orderedByHand(t impl.Table, cols []string) (impl.Table, bool) {
	if len(cols) != len(t.Cols) {
		return impl.Table{}, false
	}
	return projectByHand(t, cols)
}

// roomyCols has spare room behind it, with names in it; each text lies in memory of its own.
func roomyCols(cols []string) []string { return roomyThings(cols, strings.Clone, "z") }

func roomyTable(t impl.Table) impl.Table {
	return impl.Table{Cols: roomyCols(t.Cols), Bag: roomyBag(t.Bag)}
}

func wholeCols(cols []string) string {
	return fmt.Sprintf("%p %d %q; ", cols, len(cols), cols[:cap(cols)])
}

// wholeTable tells all of a table, the places of its lists and the room behind them too.
func wholeTable(t impl.Table) string { return wholeCols(t.Cols) + wholeBag(t.Bag) }

func spansOfTable(t impl.Table) []span {
	return append(spansOfBag(t.Bag), spanOfList(t.Cols))
}

// told tells a table in short, as a great one has many rows.
func told(t impl.Table) string {
	if len(t.Bag.Items) > 20 {
		return fmt.Sprintf("%q and %d rows", t.Cols, len(t.Bag.Items))
	}
	return fmt.Sprintf("%q %v", t.Cols, t.Bag)
}

// checkTold holds an answer that was asked for twice against the table that is meant (nothing, when it is not right).
func checkTold(t *testing.T, name string, ask func() (impl.Table, bool), want impl.Table, right bool) []impl.Table {
	t.Helper()
	got, ok := ask()
	again, againOk := ask()
	if ok != right || !sameTable(got, want) {
		t.Fatalf("%s = %s, %v; not %s, %v", name, told(got), ok, told(want), right)
	}
	if againOk != right || !sameTable(again, want) {
		t.Fatalf("%s again = %s, %v; not %s, %v", name, told(again), againOk, told(want), right)
	}
	if ok && (!impl.TableOk(got) || !rightTable(got)) {
		t.Fatalf("%s = %s, which is not right", name, told(got))
	}
	return []impl.Table{got, again}
}

// checkNew asks that no list of the answers shares memory with another one, or with an argument.
func checkNew(t *testing.T, name string, answers []impl.Table, lists []span, texts []string) {
	t.Helper()
	spans := []span{}
	for _, answer := range answers {
		spans = append(spans, spansOfTable(answer)...)
		checkTextsApart(t, name, answer.Cols, texts)
	}
	checkApart(t, name, spans, lists)
	checkTextsApart(t, name, answers[0].Cols, answers[1].Cols)
}

func checkScan(t *testing.T, g impl.Graph, a impl.Atom) {
	t.Helper()
	want, right := scanByHand(g, a)
	checkScanned(t, g, a, want, right)
}

func checkScanned(t *testing.T, g impl.Graph, a impl.Atom, want impl.Table, right bool) {
	t.Helper()
	name := fmt.Sprintf("Scan(%v, %+v)", g, a)
	g, a = roomyGraph(g), atom(strings.Clone(a.From), strings.Clone(a.Path), strings.Clone(a.To))
	before := wholeGraph(g)
	answers := checkTold(t, name, func() (impl.Table, bool) { return impl.Scan(g, a) }, want, right)
	if wholeGraph(g) != before {
		t.Fatalf("%s wrote into what was given", name)
	}
	checkNew(t, name, answers, spansOfGraph(g), []string{a.From, a.Path, a.To})
	if right && !slices.Equal(answers[0].Cols, impl.ColsOf(a)) {
		t.Fatalf("%s has the Cols %q; ColsOf has %q", name, answers[0].Cols, impl.ColsOf(a))
	}
}

func checkTables(t *testing.T, a, b impl.Table) {
	t.Helper()
	want, right := joinByHand(a, b)
	checkJoined(t, a, b, want, right)
}

func checkJoined(t *testing.T, a, b, want impl.Table, right bool) {
	t.Helper()
	name := fmt.Sprintf("JoinTables(%s, %s)", told(a), told(b))
	a, b = roomyTable(a), roomyTable(b)
	before := wholeTable(a) + wholeTable(b)
	answers := checkTold(t, name, func() (impl.Table, bool) { return impl.JoinTables(a, b) }, want, right)
	if wholeTable(a)+wholeTable(b) != before {
		t.Fatalf("%s wrote into what was given", name)
	}
	checkNew(t, name, answers, slices.Concat(spansOfTable(a), spansOfTable(b)), slices.Concat(a.Cols, b.Cols))
}

func checkSieve(t *testing.T, given impl.Table, f impl.Filter) {
	t.Helper()
	want, right := sieveByHand(given, f)
	checkSieved(t, given, f, want, right)
}

func checkSieved(t *testing.T, given impl.Table, f impl.Filter, want impl.Table, right bool) {
	t.Helper()
	name := fmt.Sprintf("Sieve(%s, %+v)", told(given), f)
	given = roomyTable(given)
	f.Left, f.Right = strings.Clone(f.Left), strings.Clone(f.Right)
	before := wholeTable(given)
	answers := checkTold(t, name, func() (impl.Table, bool) { return impl.Sieve(given, f) }, want, right)
	if wholeTable(given) != before {
		t.Fatalf("%s wrote into what was given", name)
	}
	checkNew(t, name, answers, spansOfTable(given), append([]string{f.Left, f.Right}, given.Cols...))
}

func checkProject(t *testing.T, given impl.Table, cols []string) {
	t.Helper()
	want, right := projectByHand(given, cols)
	checkProjected(t, given, cols, want, right)
}

// checkProjected asks Ordered of the same, too.
func checkProjected(t *testing.T, given impl.Table, cols []string, want impl.Table, right bool) {
	t.Helper()
	name := fmt.Sprintf("Project(%s, %q)", told(given), cols)
	given, cols = roomyTable(given), roomyCols(cols)
	before := wholeTable(given) + wholeCols(cols)
	answers := checkTold(t, name, func() (impl.Table, bool) { return impl.Project(given, cols) }, want, right)
	if len(cols) != len(given.Cols) {
		want, right = impl.Table{}, false
	}
	ordered := checkTold(t, "Ordered: "+name, func() (impl.Table, bool) { return impl.Ordered(given, cols) }, want, right)
	if wholeTable(given)+wholeCols(cols) != before {
		t.Fatalf("%s, or Ordered, wrote into what was given", name)
	}
	lists, texts := append(spansOfTable(given), spanOfList(cols)), slices.Concat(given.Cols, cols)
	checkNew(t, name, answers, lists, texts)
	checkNew(t, "Ordered: "+name, ordered, lists, texts)
}

func checkTableOk(t *testing.T, name string, given impl.Table, want bool) {
	t.Helper()
	if rightTable(given) != want {
		t.Fatalf("%s, %s: the test itself is wrong", name, told(given))
	}
	given = roomyTable(given)
	before := wholeTable(given)
	if got := impl.TableOk(given); got != want {
		t.Errorf("TableOk of %s, %s = %v; not %v", name, told(given), got, want)
	}
	if wholeTable(given) != before {
		t.Errorf("TableOk of %s wrote into what was given", name)
	}
}

func checkSame(t *testing.T, a, b impl.Table, want bool) {
	t.Helper()
	a, b = roomyTable(a), roomyTable(b)
	before := wholeTable(a) + wholeTable(b)
	if got, turned := impl.SameTable(a, b), impl.SameTable(b, a); got != want || turned != want {
		t.Errorf("SameTable(%s, %s) = %v, and the other way round %v; not %v", told(a), told(b), got, turned, want)
	}
	if wholeTable(a)+wholeTable(b) != before {
		t.Errorf("SameTable(%s, %s) wrote into what was given", told(a), told(b))
	}
}

// rightTables are of one col, two, three and four, with no rows, with some, and with the most Items.
func rightTables() []impl.Table {
	four := table("w x y z", item(5, 0, 0, 0, 0), item(1, 0, 1, 0, 1), item(impl.MaxTimes, 99, 99, 99, 98), item(2, 99, 99, 99, 99))
	return []impl.Table{
		table("x"), table("y", item(1, 0)), table("x", item(2, 0), item(1, 7), item(impl.MaxTimes, 99)),
		table("x y"), table("y x", item(3, 1, 2), item(1, 2, 1), item(4, 2, 2)), table("abcd z", item(impl.MaxTimes, 0, 99), item(impl.MaxTimes, 99, 0)),
		table("x y z"), table("z y x", item(1, 1, 2, 3), item(2, 1, 3, 2), item(3, 3, 2, 1)), table("eac ach e", item(999, 1, 1, 1)),
		table("x y z w"), four, withCols(four, "eachhh"[:3], "aaaa", "zzzz", "ea"),
		withBag(table("x y"), longBag(mostBagItems, 0, 1, 1)), withBag(table("y w"), longBag(mostBagItems, 1, 33, impl.MaxTimes)), withBag(table("z x"), longBag(150, 0, 2, 5)),
	}
}

// wrongTables has one fault each, all else being right.
func wrongTables() map[string]impl.Table {
	two, four := bag(item(1, 0, 1), item(2, 1, 0)), bag(item(1, 0, 1, 2, 3), item(2, 1, 0, 3, 2))
	out := map[string]impl.Table{
		"nothing":                      {},
		"no cols, and a row":           table("", item(1)),
		"no cols, and rows of one":     table("", item(1, 0), item(1, 1)),
		"five cols":                    table("a b c d e"),
		"five cols, and rows of four":  withBag(table("a b c d e"), four),
		"five cols, one of them twice": table("a b c d a"),
		"many cols":                    {Cols: slices.Repeat([]string{"x"}, 1000)},
		"a col twice":                  withBag(table("x x"), two),
		"a col twice, and no rows":     table("x x"),
		"a col twice, apart":           table("x y x", item(1, 0, 1, 0)),
		"the last col twice":           withBag(table("x y z z"), four),
		"the first col twice":          withBag(table("x x y z"), four),
		"the first and the last twice": withBag(table("x y z x"), four),
		"rows longer by one":           withBag(table("x"), two),
		"rows longer by two":           withBag(table("x y"), four),
		"rows shorter by one":          withBag(table("x y z"), two),
		"rows shorter by two":          withBag(table("x y z w"), two),
		"rows of nothing":              table("x", item(1)),
		"rows of nothing, two cols":    table("x y", item(7)),
		"a last row that is longer":    table("x", item(1, 0), item(1, 1), item(1, 2, 0)),
		"a last row that is shorter":   table("x y", item(1, 0, 0), item(1, 1, 1), item(1, 2)),
		"the most rows, one col":       withBag(table("x"), longBag(mostBagItems, 0, 1, 1)),
	}
	for _, col := range []string{"", "each", "abcde", "X", "x1", "1", "x ", " x", "x,y", "é", "\xff", "x\x00", "[", strings.Repeat("x", 1000)} {
		out[fmt.Sprintf("a col %.20q", col)] = withBag(withCols(impl.Table{}, col), bag(item(1, 0)))
		out[fmt.Sprintf("a col %.20q and no rows", col)] = withCols(impl.Table{}, col)
		out[fmt.Sprintf("a first col %.20q", col)] = withBag(withCols(impl.Table{}, col, "x"), two)
		out[fmt.Sprintf("a last col %.20q", col)] = withBag(withCols(impl.Table{}, "x", "y", "z", col), four)
	}
	for name, b := range wrongBags() {
		cols := []string{"x", "y", "z", "w"}[:min(4, max(1, len(b.Items[0].Row)))]
		out[name] = impl.Table{Cols: cols, Bag: b}
	}
	return out
}

// drawTable draws a right table of these Cols, whose rows have small numbers, so that many fit; what is drawn hangs on the seed alone.
func (d *drawing) drawTable(cols []string, most int) impl.Table {
	b := impl.Bag{}
	for range d.below(most + 1) {
		row := []int{}
		for range cols {
			row = append(row, []int{0, 1, 2, 99}[d.below(4)])
		}
		times := []int{1, 1, 2, 3, 7, 999, 1000, 1001, 500000, impl.MaxTimes - 1, impl.MaxTimes}[d.below(11)]
		if more, ok := addedByHand(b, row, times); ok {
			b = more
		}
	}
	return impl.Table{Cols: cols, Bag: b}
}

// drawCols are one to four of these names, in any order.
func (d *drawing) drawCols(names string) []string {
	all := choices(strings.Fields(names))
	return all[d.below(len(all))]
}

func TestTableOk(t *testing.T) {
	for i, x := range rightTables() {
		checkTableOk(t, fmt.Sprint("right table ", i), x, true)
	}
	for name, x := range wrongTables() {
		checkTableOk(t, name, x, false)
	}
	if !impl.TableOk(impl.Table{Cols: []string{"x"}}) || !impl.TableOk(impl.Table{Cols: []string{"x"}, Bag: impl.Bag{Items: []impl.Item{}}}) {
		t.Error("a table with no rows is not right")
	}
}

func TestTableOkOfEachCountOfColsAndNumbers(t *testing.T) {
	for cols := range 8 {
		names := []string{"a", "b", "c", "d", "e", "f", "g"}[:cols]
		for wide := range 7 {
			for rows := range 3 {
				x := impl.Table{Cols: names}
				for n := range rows {
					x.Bag.Items = append(x.Bag.Items, item(1, slices.Repeat([]int{n}, wide)...))
				}
				inRange := cols >= 1 && cols <= 4
				checkTableOk(t, fmt.Sprintf("%d cols, %d rows of %d numbers", cols, rows, wide), x, inRange && (rows == 0 || wide == cols && (wide > 0 || rows == 1)))
			}
		}
	}
}

func TestTableOkAtTheLimits(t *testing.T) {
	for _, rows := range []int{0, 1, 299, 300, 301, 302, 600} {
		checkTableOk(t, fmt.Sprint(rows, " rows"), withBag(table("x y"), longBag(rows, 0, 1, 1)), rows <= 300)
	}
	for _, times := range []int{math.MinInt, -1, 0, 1, 2, 999999, 1000000, 1000001, math.MaxInt} {
		checkTableOk(t, fmt.Sprint(times, " times"), table("x", item(1, 0), item(times, 1)), times >= 1 && times <= 1000000)
	}
	for _, n := range []int{math.MinInt, -1, 0, 1, 98, 99, 100, math.MaxInt} {
		checkTableOk(t, fmt.Sprint("a number ", n), table("x y", item(1, 0, n)), n >= 0 && n <= 99)
	}
}

func TestColsOf(t *testing.T) {
	for _, c := range []struct {
		a    impl.Atom
		want []string
	}{
		{atom("x", "a", "y"), []string{"x", "y"}}, {atom("y", "a", "x"), []string{"y", "x"}}, {atom("x", "a", "x"), []string{"x"}},
		{atom("ab", "a", "a"), []string{"ab", "a"}}, {atom("a", "a*", "ab"), []string{"a", "ab"}}, {atom("abcd", "", "abcd"), []string{"abcd"}},
		{atom("", "", ""), []string{""}}, {atom("", "a", "x"), []string{"", "x"}}, {atom("x", "e", ""), []string{"x", ""}}, {atom("each", "a", "each"), []string{"each"}},
		{atom("x", "no path", "X"), []string{"x", "X"}}, {atom("abcdef", "a", "abcdeg"), []string{"abcdef", "abcdeg"}}, {atom("\xff", "a", "\xfe"), []string{"\xff", "\xfe"}},
	} {
		a := atom(strings.Clone(c.a.From), strings.Clone(c.a.Path), strings.Clone(c.a.To))
		got, again := impl.ColsOf(a), impl.ColsOf(a)
		if !slices.Equal(got, c.want) || !slices.Equal(again, c.want) {
			t.Errorf("ColsOf(%+v) = %q, and again %q; not %q", a, got, again, c.want)
		}
		checkApart(t, "ColsOf", []span{spanOfList(got), spanOfList(again)}, nil)
		checkTextsApart(t, "ColsOf", got, append([]string{a.From, a.Path, a.To}, again...))
	}
}

func TestScanThatIsKnown(t *testing.T) {
	for _, c := range []struct {
		a    impl.Atom
		want impl.Table
	}{
		{atom("x", "a", "y"), table("x y", item(1, 0, 1), item(1, 0, 2), item(1, 1, 1), item(1, 3, 0))},
		{atom("y", "a", "x"), table("y x", item(1, 0, 1), item(1, 0, 2), item(1, 1, 1), item(1, 3, 0))},
		{atom("x", "a", "x"), table("x", item(1, 1))},
		{atom("x", "ab", "y"), table("x y", item(1, 0, 3), item(1, 1, 3))},
		{atom("x", "ab", "x"), table("x")},
		{atom("x", "aba", "x"), table("x", item(1, 0))},
		{atom("x", "c", "x"), table("x", item(1, 3))},
		{atom("x", "c", "y"), table("x y", item(1, 3, 3))},
		{atom("x", "d", "y"), table("x y")},
		{atom("x", "d", "x"), table("x")},
		{atom("x", "d*", "y"), table("x y", item(1, 0, 0), item(1, 1, 1), item(1, 2, 2), item(1, 3, 3))},
		{atom("x", "d?", "x"), table("x", item(1, 0), item(1, 1), item(1, 2), item(1, 3))},
		{atom("x", "b?", "y"), table("x y", item(1, 0, 0), item(1, 1, 1), item(1, 1, 3), item(1, 2, 2), item(1, 2, 3), item(1, 3, 3))},
		{atom("x", "a|a|aa*", "y"), table("x y", item(1, 0, 1), item(1, 0, 2), item(1, 1, 1), item(1, 3, 0), item(1, 3, 1), item(1, 3, 2))},
		{atom("abcd", "b|c", "ea"), table("abcd ea", item(1, 1, 3), item(1, 2, 3), item(1, 3, 3))},
	} {
		checkScanned(t, forkGraph, c.a, c.want, true)
		checkScan(t, forkGraph, c.a)
	}
}

func TestScanIsAsByHand(t *testing.T) {
	d := drawing{211}
	graphs := slices.Concat(rightGraphs(), ringGraphs(), drawnGraphs(60, 223), fullGraphs(), []impl.Graph{forkGraph})
	for _, g := range graphs {
		for _, path := range []string{"a", "b", "a*", "a+", "a?", "ab", "a|b", "(a|b|c|d)*", "(ab?)+c", "d", "cd*"} {
			checkScan(t, g, atom("x", path, "y"))
			checkScan(t, g, atom("y", path, "y"))
		}
		for range 3 {
			path := drawnPathText(&d, 2)
			checkScan(t, g, atom("y", path, "x"))
			checkScan(t, g, atom("abcd", path, "abcd"))
		}
	}
}

// TestScanOfAllPairs has paths that take nothing alone, and paths that lead from each vertex to each, over graphs of each size.
func TestScanOfAllPairs(t *testing.T) {
	for size := 1; size <= impl.MaxVerts; size++ {
		one, each, all := table("x"), table("x y"), table("x y")
		for from := range size {
			one.Bag.Items = append(one.Bag.Items, item(1, from))
			each.Bag.Items = append(each.Bag.Items, item(1, from, from))
			for to := range size {
				all.Bag.Items = append(all.Bag.Items, item(1, from, to))
			}
		}
		for _, path := range []string{"d*", "d?", "(dd)*", "(d?)+"} {
			checkScanned(t, ringGraph(size), atom("x", path, "x"), one, true)
			checkScanned(t, ringGraph(size), atom("x", path, "y"), each, true)
			checkScanned(t, graph(size), atom("x", path, "y"), each, true)
		}
		checkScanned(t, ringGraph(size), atom("x", "a*", "y"), all, true)
		checkScanned(t, ringGraph(size), atom("x", "a*", "x"), one, true)
		checkScanned(t, graph(size), atom("x", "a", "y"), table("x y"), true)
		checkScanned(t, graph(size), atom("x", "a", "x"), table("x"), true)
	}
}

func TestScanOfWrongGraphs(t *testing.T) {
	for name, g := range wrongGraphs() {
		for _, a := range []impl.Atom{atom("x", "a", "y"), atom("x", "a*", "x"), atom("x", "d?", "y"), {}} {
			if got, ok := impl.Scan(g, a); ok || !isNoTable(got) {
				t.Errorf("Scan of a graph with %s, %+v = %s, %v; not refused", name, a, told(got), ok)
			}
			checkScan(t, g, a)
		}
	}
}

func TestScanOfWrongAtoms(t *testing.T) {
	wrong := []impl.Atom{
		{}, atom("", "a", "y"), atom("x", "a", ""), atom("", "a", ""), atom("x", "", "y"), atom("each", "a", "y"), atom("x", "a", "each"), atom("each", "a", "each"),
		atom("abcde", "a", "y"), atom("x", "a", "abcde"), atom("X", "a", "y"), atom("x", "a", "y "), atom("x", "a", "x1"), atom("x", "a", "é"), atom("\xff", "a", "y"),
		atom("x", strings.Repeat("a", 21), "y"), atom("x", strings.Repeat("a", 100000), "y"), atom("x", strings.Repeat("(", 100000), "y"),
	}
	for _, path := range wrongPathTexts {
		wrong = append(wrong, atom("x", path, "y"), atom("x", path, "x"))
	}
	for _, a := range wrong {
		for _, g := range []impl.Graph{graph(1, edge(0, 'a', 0)), forkGraph, ringGraph(12), {}} {
			if got, ok := impl.Scan(g, a); ok || !isNoTable(got) {
				t.Errorf("Scan(%v, %.60q) = %s, %v; not refused", g, a, told(got), ok)
			}
		}
		checkScan(t, forkGraph, a)
	}
	// Just as long as a path may be.
	checkScan(t, ringGraph(5), atom("x", strings.Repeat("a", 20), "y"))
	checkScan(t, ringGraph(5), atom("x", strings.Repeat("a", 20), "x"))
}

func TestJoinThatIsKnown(t *testing.T) {
	xy := table("x y", item(1, 0, 1), item(2, 0, 2), item(3, 1, 1))
	for name, c := range map[string]struct{ a, b, want impl.Table }{
		"a col in common":              {xy, table("y z", item(5, 1, 7), item(7, 1, 8), item(9, 3, 9)), table("x y z", item(5, 0, 1, 7), item(7, 0, 1, 8), item(15, 1, 1, 7), item(21, 1, 1, 8))},
		"a col in common, behind":      {xy, table("z y", item(5, 7, 1), item(7, 8, 1), item(9, 9, 3)), table("x y z", item(5, 0, 1, 7), item(7, 0, 1, 8), item(15, 1, 1, 7), item(21, 1, 1, 8))},
		"the first col in common":      {xy, table("x z", item(5, 0, 4), item(6, 2, 4)), table("x y z", item(5, 0, 1, 4), item(10, 0, 2, 4))},
		"the other one first":          {table("y z", item(5, 1, 7), item(7, 2, 8)), xy, table("y z x", item(5, 1, 7, 0), item(15, 1, 7, 1), item(14, 2, 8, 0))},
		"no col in common":             {xy, table("z", item(10, 5), item(20, 6)), table("x y z", item(10, 0, 1, 5), item(20, 0, 1, 6), item(20, 0, 2, 5), item(40, 0, 2, 6), item(30, 1, 1, 5), item(60, 1, 1, 6))},
		"no col in common, same rows":  {xy, table("z w", item(4, 0, 1)), table("x y z w", item(4, 0, 1, 0, 1), item(8, 0, 2, 0, 1), item(12, 1, 1, 0, 1))},
		"one col each, none in common": {table("y", item(2, 3), item(1, 4)), table("x", item(3, 4)), table("y x", item(6, 3, 4), item(3, 4, 4))},
		"one col each, the same":       {table("x", item(2, 3), item(1, 4)), table("x", item(3, 4), item(1, 5)), table("x", item(3, 4))},
		"all cols in common":           {xy, table("x y", item(2, 0, 2), item(2, 1, 1), item(2, 5, 5)), table("x y", item(4, 0, 2), item(6, 1, 1))},
		"all, in another order":        {xy, table("y x", item(2, 0, 2), item(2, 1, 1), item(2, 2, 0)), table("x y", item(4, 0, 2), item(6, 1, 1))},
		"all of the other's":           {xy, table("y", item(2, 1), item(2, 9)), table("x y", item(2, 0, 1), item(6, 1, 1))},
		"all of its own":               {table("y", item(2, 1), item(2, 9)), xy, table("y x", item(2, 1, 0), item(6, 1, 1))},
		"two of three in common":       {table("x y z", item(1, 1, 2, 3), item(1, 1, 2, 4)), table("z w x", item(3, 3, 9, 1), item(3, 4, 9, 2)), table("x y z w", item(3, 1, 2, 3, 9))},
		"two, the other way round":     {table("x y z", item(1, 1, 2, 3), item(1, 3, 2, 1)), table("z x", item(3, 3, 1)), table("x y z", item(3, 1, 2, 3))},
		"no rows in one":               {xy, table("y z"), table("x y z")},
		"no rows in the first":         {table("z w"), xy, table("z w x y")},
		"no rows in either":            {table("z"), table("w"), table("z w")},
		"rows of which none fits":      {xy, table("y", item(1, 0), item(1, 3)), table("x y")},
	} {
		want, right := joinByHand(c.a, c.b)
		if !right || !sameTable(want, c.want) {
			t.Fatalf("%s: the test itself is wrong", name)
		}
		checkJoined(t, c.a, c.b, c.want, true)
	}
}

// TestJoinOfEachCols has tables of all cols that may stand in the two, in each order: none in common, one, some and all.
func TestJoinOfEachCols(t *testing.T) {
	d := drawing{227}
	for _, left := range choices([]string{"x", "y", "z", "w"}) {
		for _, right := range choices([]string{"y", "w", "x", "v"}) {
			checkTables(t, d.drawTable(left, 5), d.drawTable(right, 5))
		}
	}
}

func TestJoinOfDrawnTables(t *testing.T) {
	d := drawing{229}
	for range 1500 {
		a, b := d.drawTable(d.drawCols("x y z w"), 12), d.drawTable(d.drawCols("z y v u"), 12)
		checkTables(t, a, b)
		checkTables(t, b, a)
		checkTables(t, a, a)
	}
	for range 25 {
		a, b := d.drawTable([]string{"x", "y", "z"}, 60), d.drawTable(d.drawCols("y z w"), 60)
		checkTables(t, a, b)
		checkTables(t, b, a)
	}
	for _, a := range rightTables() {
		for _, b := range rightTables() {
			checkTables(t, a, b)
		}
	}
}

// numbered has rows of one number, from this one on.
func numbered(col string, count, from, times int) impl.Table {
	out := table(col)
	for n := range count {
		out.Bag.Items = append(out.Bag.Items, item(times, from+n))
	}
	return out
}

// TestJoinWithoutAColInCommon counts rows: each of the one with each of the other.
func TestJoinWithoutAColInCommon(t *testing.T) {
	for _, c := range [][2]int{{0, 0}, {0, 1}, {0, 100}, {1, 1}, {1, 100}, {2, 100}, {3, 99}, {3, 100}, {4, 75}, {15, 20}, {12, 25}, {17, 17}, {4, 76}, {7, 43}, {14, 22}, {10, 30}, {10, 31}, {100, 100}} {
		for _, swap := range []bool{false, true} {
			a, b := numbered("x", c[0], 0, 2), numbered("y", c[1], 0, 3)
			if swap {
				a, b = numbered("x", c[1], 0, 2), numbered("y", c[0], 0, 3)
			}
			got, ok := impl.JoinTables(a, b)
			count := c[0] * c[1]
			if ok != (count <= 300) || ok && len(got.Bag.Items) != count || !ok && !isNoTable(got) {
				t.Errorf("%d rows with %d make %d, %v", len(a.Bag.Items), len(b.Bag.Items), len(got.Bag.Items), ok)
			}
			for _, x := range got.Bag.Items {
				if x.Times != 6 {
					t.Errorf("%v is there %d times; not 6", x.Row, x.Times)
				}
			}
			checkTables(t, a, b)
		}
	}
}

// TestJoinAtTheMostItems has 300 rows, and 301, of tables that share cols, and of tables that do not.
func TestJoinAtTheMostItems(t *testing.T) {
	most := withBag(table("x y"), longBag(300, 0, 1, 1))
	for name, c := range map[string]struct {
		a, b  impl.Table
		count int
	}{
		"with itself":               {most, most, 300},
		"with one row more":         {most, table("z", item(1, 5)), 300},
		"with two rows more":        {most, table("z", item(1, 5), item(1, 6)), -1},
		"with no row":               {most, table("z"), 0},
		"with one of its cols":      {most, numbered("x", 3, 0, 1), 300},
		"with some of a col":        {most, numbered("x", 2, 0, 1), 200},
		"with cols of its own":      {most, table("x z", item(1, 0, 0), item(1, 1, 0), item(1, 2, 0)), 300},
		"with one that fits twice":  {most, table("y z", item(1, 0, 0), item(1, 0, 1), item(1, 1, 0)), 9},
		"200 and 100 and no more":   {withBag(table("x y"), longBag(200, 0, 1, 1)), table("x z", item(1, 0, 0), item(1, 0, 1), item(1, 1, 0)), 300},
		"200 and 100 and one more":  {withBag(table("x y"), longBag(201, 0, 1, 1)), table("x z", item(1, 0, 0), item(1, 0, 1), item(1, 1, 0), item(1, 2, 0)), -1},
		"300 by the last row alone": {withBag(table("x y"), longBag(299, 0, 1, 1)), table("x y z", append(xyzItems(298), item(1, 2, 98, 0), item(1, 2, 98, 1))...), 300},
	} {
		for _, swap := range []bool{false, true} {
			a, b := c.a, c.b
			if swap {
				a, b = b, a
			}
			if !rightTable(a) || !rightTable(b) {
				t.Fatalf("%s: the test itself is wrong", name)
			}
			got, ok := impl.JoinTables(a, b)
			if ok != (c.count >= 0) || len(got.Bag.Items) != max(c.count, 0) {
				t.Errorf("%s: %d rows, %v; not %d", name, len(got.Bag.Items), ok, c.count)
			}
			checkTables(t, a, b)
		}
	}
}

// xyzItems are the first rows of longBag, with a nought behind each.
func xyzItems(count int) []impl.Item {
	out := []impl.Item{}
	for n := range count {
		out = append(out, item(1, append(countedRow(n), 0)...))
	}
	return out
}

// TestJoinAtTheMostCols has no table of five cols, however few rows there are.
func TestJoinAtTheMostCols(t *testing.T) {
	for left := 1; left <= 4; left++ {
		for right := 1; right <= 4; right++ {
			for common := 0; common <= min(left, right); common++ {
				names := []string{"a", "b", "c", "d", "e", "f", "g", "h"}
				a, b := impl.Table{Cols: names[:left]}, impl.Table{Cols: names[left-common : left-common+right]}
				for rows := range 2 {
					if rows == 1 {
						a.Bag, b.Bag = bag(item(2, make([]int, left)...)), bag(item(3, make([]int, right)...))
					}
					got, ok := impl.JoinTables(a, b)
					wide := left + right - common
					if ok != (wide <= 4) || ok && (len(got.Cols) != wide || len(got.Bag.Items) != rows) || !ok && !isNoTable(got) {
						t.Errorf("JoinTables(%s, %s) = %s, %v", told(a), told(b), told(got), ok)
					}
					checkTables(t, a, b)
					checkTables(t, withBag(a, bag()), b)
					checkTables(t, a, withBag(b, bag()))
				}
			}
		}
	}
}

func TestJoinUpToMaxTimes(t *testing.T) {
	for _, c := range [][3]int{
		{1, 1, 1}, {1, 999999, 999999}, {1, 1000000, 1000000}, {2, 499999, 999998}, {2, 500000, 1000000}, {2, 500001, 1000000}, {3, 333333, 999999}, {3, 333334, 1000000}, {999, 1001, 999999},
		{1000, 1000, 1000000}, {1000, 1001, 1000000}, {1001, 1001, 1000000}, {9901, 101, 1000000}, {2, 1000000, 1000000}, {999999, 999999, 1000000}, {1000000, 1000000, 1000000},
	} {
		for _, times := range [][2]int{{c[0], c[1]}, {c[1], c[0]}} {
			one, other := table("x", item(times[0], 5)), table("y", item(times[1], 6))
			checkJoined(t, one, other, table("x y", item(c[2], 5, 6)), true)
			checkJoined(t, one, table("x", item(times[1], 5)), table("x", item(c[2], 5)), true)
			checkJoined(t, one, table("x y", item(times[1], 5, 0), item(1, 5, 1)), table("x y", item(c[2], 5, 0), item(times[0], 5, 1)), true)
		}
	}
}

func TestWrongTablesAreRefused(t *testing.T) {
	right := table("x y", item(1, 0, 0), item(2, 0, 1), item(3, 1, 0))
	for name, x := range wrongTables() {
		for _, other := range []impl.Table{right, table("x"), table("v"), table("v", item(1, 0)), x, {}} {
			for _, two := range [][2]impl.Table{{x, other}, {other, x}} {
				if got, ok := impl.JoinTables(two[0], two[1]); ok || !isNoTable(got) {
					t.Errorf("JoinTables with %s = %s, %v; not refused", name, told(got), ok)
				}
			}
		}
		checkTables(t, x, right)
		checkTables(t, right, x)
		for _, col := range append([]string{"x", "y", ""}, x.Cols[:min(5, len(x.Cols))]...) {
			for _, f := range []impl.Filter{thanNum(col, 1, 99), thanNum(col, 2, 0), than(col, 2, col), than(col, 1, "x")} {
				if got, ok := impl.Sieve(x, f); ok || !isNoTable(got) {
					t.Errorf("Sieve of %s and %+v = %s, %v; not refused", name, f, told(got), ok)
				}
				checkSieve(t, x, f)
			}
			for _, cols := range [][]string{{col}, {"x"}, {"x", "y"}, {"y", "x"}, x.Cols, nil} {
				if got, ok := impl.Project(x, cols); ok || !isNoTable(got) {
					t.Errorf("Project of %s to %.60q = %s, %v; not refused", name, cols, told(got), ok)
				}
				if got, ok := impl.Ordered(x, cols); ok || !isNoTable(got) {
					t.Errorf("Ordered of %s by %.60q = %s, %v; not refused", name, cols, told(got), ok)
				}
				checkProject(t, x, cols)
			}
		}
	}
}

func TestSieveThatIsKnown(t *testing.T) {
	x := table("x y", item(2, 0, 0), item(3, 0, 5), item(4, 5, 0), item(5, 5, 5), item(6, 99, 98))
	for _, c := range []struct {
		f    impl.Filter
		want impl.Table
	}{
		{than("x", 1, "y"), table("x y", item(3, 0, 5))}, {than("y", 1, "x"), table("x y", item(4, 5, 0), item(6, 99, 98))},
		{than("x", 2, "y"), table("x y", item(2, 0, 0), item(5, 5, 5))}, {than("y", 2, "x"), table("x y", item(2, 0, 0), item(5, 5, 5))},
		{than("x", 1, "x"), table("x y")}, {than("y", 2, "y"), x},
		{thanNum("x", 1, 5), table("x y", item(2, 0, 0), item(3, 0, 5))}, {thanNum("x", 2, 5), table("x y", item(4, 5, 0), item(5, 5, 5))},
		{thanNum("y", 1, 1), table("x y", item(2, 0, 0), item(4, 5, 0))}, {thanNum("y", 2, 98), table("x y", item(6, 99, 98))},
		{thanNum("x", 1, 0), table("x y")}, {thanNum("x", 2, 1), table("x y")}, {thanNum("y", 1, 99), x}, {thanNum("x", 1, 99), table("x y", x.Bag.Items[:4]...)},
		// No question has such a number, but a filter of a table may.
		{thanNum("x", 1, 100), x}, {thanNum("x", 1, -1), table("x y")}, {thanNum("x", 2, -1), table("x y")}, {thanNum("x", 1, math.MaxInt), x}, {thanNum("x", 1, math.MinInt), table("x y")},
		{impl.Filter{Left: "x", Op: 1, Right: "y", Num: 99}, table("x y", item(3, 0, 5))}, {impl.Filter{Left: "x", Op: 2, Right: "y", Num: -1}, table("x y", item(2, 0, 0), item(5, 5, 5))},
	} {
		checkSieved(t, x, c.f, c.want, true)
		checkSieve(t, x, c.f)
	}
}

func TestSieveRefuses(t *testing.T) {
	tables := []impl.Table{table("x y"), table("x y", item(1, 0, 0), item(1, 1, 2)), table("y z x", item(1, 1, 1, 1))}
	for _, x := range tables {
		for _, f := range []impl.Filter{
			{}, thanNum("x", 0, 1), thanNum("x", 3, 1), thanNum("x", -1, 1), thanNum("x", -2, 1), thanNum("x", math.MaxInt, 1), thanNum("x", math.MinInt, 1), thanNum("x", 1<<32+1, 1), thanNum("x", 257, 1), than("x", 0, "y"), than("x", 3, "x"), than("y", -1, "x"),
			thanNum("", 1, 1), thanNum("w", 1, 1), thanNum("each", 2, 1), thanNum("X", 1, 1), thanNum("xy", 1, 1), thanNum("x ", 1, 1), thanNum("x\x00", 1, 1), thanNum("1", 2, 1), thanNum(strings.Repeat("x", 100000), 2, 1),
			than("x", 1, "w"), than("x", 2, "each"), than("x", 2, "X"), than("x", 2, " "), than("x", 2, "1"), than("x", 2, "xy"), than("w", 1, "x"), than("w", 1, "w"), than("", 1, "x"), than("x", 2, strings.Repeat("y", 100000)),
		} {
			if got, ok := impl.Sieve(x, f); ok || !isNoTable(got) {
				t.Errorf("Sieve(%s, %+v) = %s, %v; not refused", told(x), f, told(got), ok)
			}
			checkSieve(t, x, f)
		}
	}
}

func TestSieveOfEachFilter(t *testing.T) {
	d := drawing{233}
	tables := rightTables()
	for range 60 {
		tables = append(tables, d.drawTable(d.drawCols("x y z w"), 12))
	}
	for _, x := range tables {
		for _, left := range append([]string{"x", "q"}, x.Cols...) {
			for op := range 4 {
				for _, right := range append([]string{"x", "q"}, x.Cols...) {
					checkSieve(t, x, than(left, op, right))
				}
				for _, num := range []int{-1, 0, 1, 2, 7, 98, 99, 100} {
					checkSieve(t, x, thanNum(left, op, num))
				}
			}
		}
	}
}

// TestSieveInWhateverOrder: what passes two sieves does so whichever is first, and as often as it was.
func TestSieveInWhateverOrder(t *testing.T) {
	d := drawing{239}
	for range 300 {
		x := d.drawTable(d.drawCols("x y z w"), 20)
		col := func() string { return x.Cols[d.below(len(x.Cols))] }
		f, g := than(col(), 1+d.below(2), col()), thanNum(col(), 1+d.below(2), d.below(3))
		a, _ := impl.Sieve(x, f)
		a, ok := impl.Sieve(a, g)
		b, _ := impl.Sieve(x, g)
		b, right := impl.Sieve(b, f)
		if !ok || !right || !sameTable(a, b) || !impl.SameTable(a, b) {
			t.Errorf("%+v and %+v of %s: %s, %s", f, g, told(x), told(a), told(b))
		}
		for _, kept := range a.Bag.Items {
			if impl.BagTimes(x.Bag, kept.Row) != kept.Times {
				t.Errorf("%v is there %d times in %s", kept.Row, kept.Times, told(x))
			}
		}
	}
}

func TestProjectThatIsKnown(t *testing.T) {
	x := table("x y z", item(1, 0, 1, 2), item(2, 0, 1, 3), item(4, 0, 2, 2), item(8, 1, 0, 2), item(16, 1, 1, 3))
	for cols, want := range map[string]impl.Table{
		"x":     table("x", item(7, 0), item(24, 1)),
		"y":     table("y", item(8, 0), item(19, 1), item(4, 2)),
		"z":     table("z", item(13, 2), item(18, 3)),
		"x y":   table("x y", item(3, 0, 1), item(4, 0, 2), item(8, 1, 0), item(16, 1, 1)),
		"y x":   table("y x", item(8, 0, 1), item(3, 1, 0), item(16, 1, 1), item(4, 2, 0)),
		"x z":   table("x z", item(5, 0, 2), item(2, 0, 3), item(8, 1, 2), item(16, 1, 3)),
		"z x":   table("z x", item(5, 2, 0), item(8, 2, 1), item(2, 3, 0), item(16, 3, 1)),
		"y z":   table("y z", item(8, 0, 2), item(1, 1, 2), item(18, 1, 3), item(4, 2, 2)),
		"z y":   table("z y", item(8, 2, 0), item(1, 2, 1), item(4, 2, 2), item(18, 3, 1)),
		"x y z": x,
		"z y x": table("z y x", item(8, 2, 0, 1), item(1, 2, 1, 0), item(4, 2, 2, 0), item(2, 3, 1, 0), item(16, 3, 1, 1)),
		"y z x": table("y z x", item(8, 0, 2, 1), item(1, 1, 2, 0), item(2, 1, 3, 0), item(16, 1, 3, 1), item(4, 2, 2, 0)),
	} {
		checkProjected(t, x, strings.Fields(cols), want, true)
		checkProject(t, x, strings.Fields(cols))
	}
}

// TestProjectOfEachCols has each choice of cols, in each order: of one, of some, of all.
func TestProjectOfEachCols(t *testing.T) {
	d := drawing{241}
	tables := rightTables()
	for range 60 {
		tables = append(tables, d.drawTable(d.drawCols("x y z w"), 30))
	}
	for _, x := range tables {
		for _, cols := range choices(x.Cols) {
			checkProject(t, x, cols)
		}
		again, ok := impl.Project(x, x.Cols)
		if !ok || !sameTable(again, x) {
			t.Errorf("Project of %s to all its Cols = %s, %v", told(x), told(again), ok)
		}
	}
}

// TestWhatIsProjectedIsAsOften: all rows together are there as often as before, and each as often as those that become it.
func TestWhatIsProjectedIsAsOften(t *testing.T) {
	d := drawing{251}
	for range 200 {
		x := d.drawTable(d.drawCols("x y z w"), 30)
		for i := range x.Bag.Items {
			x.Bag.Items[i].Times = 1 + d.below(1000)
		}
		for _, cols := range choices(x.Cols) {
			p, ok := impl.Project(x, cols)
			if !ok || impl.BagSize(p.Bag) != impl.BagSize(x.Bag) {
				t.Fatalf("Project(%s, %q) = %s, %v", told(x), cols, told(p), ok)
			}
			for _, fewer := range choices(cols) {
				once, _ := impl.Project(x, fewer)
				twice, right := impl.Project(p, fewer)
				if !right || !sameTable(once, twice) {
					t.Fatalf("Project of %s to %q, by way of %q or straight: %s, %s", told(x), fewer, cols, told(twice), told(once))
				}
			}
		}
	}
}

func TestProjectUpToMaxTimes(t *testing.T) {
	for _, c := range []struct{ one, other, want int }{
		{1, 1, 2}, {499999, 500000, 999999}, {500000, 500000, 1000000}, {999999, 1, 1000000}, {1, 999999, 1000000}, {500000, 500001, 1000000}, {999999, 2, 1000000}, {1000000, 1, 1000000}, {1, 1000000, 1000000}, {1000000, 1000000, 1000000},
	} {
		x := table("x y", item(c.one, 3, 0), item(c.other, 3, 9), item(5, 4, 0))
		checkProjected(t, x, []string{"x"}, table("x", item(c.want, 3), item(5, 4)), true)
		checkProjected(t, x, []string{"y", "x"}, table("y x", item(c.one, 0, 3), item(5, 0, 4), item(c.other, 9, 3)), true)
		more := table("x y z", item(c.one, 3, 0, 0), item(c.other, 3, 0, 1), item(1, 3, 0, 2), item(1, 3, 0, 3))
		checkProjected(t, more, []string{"y"}, table("y", item(min(c.want+2, 1000000), 0)), true)
	}
	// All 300 rows become one.
	for _, times := range []int{1, 3333, 3334, impl.MaxTimes} {
		x := table("x y z")
		for n := range 300 {
			x.Bag.Items = append(x.Bag.Items, item(times, append([]int{7}, countedRow(n)...)...))
		}
		checkProjected(t, x, []string{"x"}, table("x", item(min(300*times, 1000000), 7)), true)
		checkProject(t, x, []string{"z", "x"})
	}
}

func TestProjectRefuses(t *testing.T) {
	tables := []impl.Table{table("x"), table("x", item(1, 0)), table("x y"), table("x y", item(1, 0, 0), item(2, 1, 1)), table("z y x w", item(1, 0, 1, 2, 3))}
	for _, x := range tables {
		wrong := [][]string{
			nil, {}, {""}, {"q"}, {"X"}, {"each"}, {"xy"}, {"x "}, {"x\x00"}, {"x", "q"}, {"q", "x"}, {"x", ""}, {"x", "x"}, {"x", "y", "x"}, {"y", "x", "y"}, {"x", "y", "y"}, {"x", "x", "y"}, {"z", "y", "x", "w", "z"},
			{"z", "y", "x", "x"}, {"z", "z", "x", "w"}, {"z", "y", "x", "w", "v"}, {"v", "z", "y", "x", "w"}, {"z", "y", "x", "v"}, {strings.Repeat("x", 100000)}, slices.Repeat([]string{"x"}, 100), slices.Repeat([]string{"x"}, len(x.Cols)+1),
		}
		for _, cols := range wrong {
			if got, ok := impl.Project(x, cols); ok || !isNoTable(got) {
				t.Errorf("Project(%s, %.60q) = %s, %v; not refused", told(x), cols, told(got), ok)
			}
			if got, ok := impl.Ordered(x, cols); ok || !isNoTable(got) {
				t.Errorf("Ordered(%s, %.60q) = %s, %v; not refused", told(x), cols, told(got), ok)
			}
			checkProject(t, x, cols)
		}
	}
}

// TestOrderedIsOfAllColsAlone has each choice of cols, of which those of all cols are an order.
func TestOrderedIsOfAllColsAlone(t *testing.T) {
	for _, x := range []impl.Table{table("x"), table("y", item(3, 5)), table("x y"), table("x y z", item(3, 1, 2, 3), item(4, 1, 3, 2)), table("w x y z", item(2, 4, 3, 2, 1), item(7, 9, 8, 7, 6)), withBag(table("x y"), longBag(300, 7, 11, 3))} {
		orders := 0
		for _, cols := range choices(x.Cols) {
			got, ok := impl.Ordered(x, cols)
			if ok != (len(cols) == len(x.Cols)) || !ok && !isNoTable(got) {
				t.Errorf("Ordered(%s, %q) = %s, %v", told(x), cols, told(got), ok)
			}
			if !ok {
				continue
			}
			orders++
			if back, right := impl.Ordered(got, x.Cols); !right || !sameTable(back, x) || len(got.Bag.Items) != len(x.Bag.Items) || !slices.Equal(got.Cols, cols) {
				t.Errorf("Ordered(%s, %q) = %s, and back %s, %v", told(x), cols, told(got), told(back), right)
			}
		}
		if want := []int{1, 2, 6, 24}[len(x.Cols)-1]; orders != want {
			t.Errorf("%s has %d orders; not %d", told(x), orders, want)
		}
	}
}

func TestSameTable(t *testing.T) {
	x := table("x y", item(1, 0, 1), item(2, 1, 0))
	others := []impl.Table{
		{}, table("x y"), table("y x", item(1, 0, 1), item(2, 1, 0)), table("y x", item(2, 0, 1), item(1, 1, 0)), table("x z", item(1, 0, 1), item(2, 1, 0)), table("x", item(1, 0), item(2, 1)), table("x y z", item(1, 0, 1, 0), item(2, 1, 0, 0)),
		table("x y", item(2, 0, 1), item(2, 1, 0)), table("x y", item(1, 0, 1), item(1, 1, 0)), table("x y", item(2, 0, 1), item(1, 1, 0)), table("x y", item(1, 0, 1)), table("x y", item(2, 1, 0)),
		table("x y", item(1, 0, 1), item(2, 1, 0), item(1, 1, 1)), table("x y", item(1, 0, 0), item(1, 0, 1), item(2, 1, 0)), table("x y", item(1, 0, 1), item(2, 1, 1)), table("x y", item(1, 0, 2), item(2, 1, 0)), table("x y", item(3, 0, 1)),
		table("x x", item(1, 0, 1), item(2, 1, 0)), table("X y", item(1, 0, 1), item(2, 1, 0)), table("x y x", item(1, 0, 1), item(2, 1, 0)), table("", item(1, 0, 1), item(2, 1, 0)),
	}
	checkSame(t, x, x, true)
	for _, other := range others {
		checkSame(t, x, other, false)
		checkSame(t, other, other, true)
	}
	tables := rightTables()
	for i, a := range tables {
		for j, b := range tables {
			checkSame(t, a, b, i == j)
			checkSame(t, a, b, sameTable(a, b))
		}
	}
	d := drawing{257}
	for range 3000 {
		a, b := d.drawTable(d.drawCols("x y"), 2), d.drawTable(d.drawCols("x y"), 2)
		checkSame(t, a, b, sameTable(a, b))
	}
}

func TestSameTableOfEmptyListsAndNil(t *testing.T) {
	empty := impl.Table{Cols: []string{}, Bag: impl.Bag{Items: []impl.Item{}}}
	checkSame(t, impl.Table{}, empty, true)
	checkSame(t, table("x"), impl.Table{Cols: []string{"x"}, Bag: impl.Bag{Items: []impl.Item{}}}, true)
	checkSame(t, table("x", item(1)), impl.Table{Cols: []string{"x"}, Bag: bag(impl.Item{Row: []int{}, Times: 1})}, true)
	if !impl.SameTable(impl.Table{}, empty) || !impl.SameTable(empty, impl.Table{}) || impl.SameTable(impl.Table{}, table("x")) {
		t.Error("nil is not as an empty list")
	}
}

// TestSameTableOfWrongTables: the chapter asks of no table that it is right; where rows stand is not asked either, but how often each is there.
func TestSameTableOfWrongTables(t *testing.T) {
	for name, x := range wrongTables() {
		checkSame(t, x, x, true)
		for _, right := range rightTables() {
			if impl.SameTable(x, right) || impl.SameTable(right, x) {
				t.Errorf("a table with %s is the same as %s", name, told(right))
			}
		}
		turned := roomyTable(x)
		slices.Reverse(turned.Bag.Items)
		checkSame(t, x, turned, true)
		if len(x.Bag.Items) == 0 {
			continue
		}
		checkSame(t, x, withBag(x, bag(x.Bag.Items[1:]...)), false)
		checkSame(t, x, withBag(x, bag(append(slices.Clone(x.Bag.Items), item(1, 5, 5, 5))...)), false)
		other := roomyTable(x)
		other.Bag.Items[len(other.Bag.Items)-1].Times += 7
		checkSame(t, x, other, false)
	}
}

// checkOrders holds a table against another one that has the same cols in whatever order.
func checkOrders(t *testing.T, name string, a, b impl.Table) {
	t.Helper()
	ordered, ok := impl.Ordered(b, a.Cols)
	if !ok || !impl.SameTable(a, ordered) || !sameTable(a, ordered) {
		t.Fatalf("%s: %s is not %s, ordered %s, %v", name, told(a), told(b), told(ordered), ok)
	}
	back, ok := impl.Ordered(a, b.Cols)
	if !ok || !impl.SameTable(b, back) || !sameTable(b, back) {
		t.Fatalf("%s: %s is not %s, ordered %s, %v", name, told(b), told(a), told(back), ok)
	}
}

func TestTwoTablesInWhateverOrder(t *testing.T) {
	d := drawing{263}
	for range 3000 {
		a, b := d.drawTable(d.drawCols("x y z w"), 15), d.drawTable(d.drawCols("z y v x"), 15)
		one, ok := impl.JoinTables(a, b)
		other, right := impl.JoinTables(b, a)
		if ok != right {
			t.Fatalf("JoinTables of %s and %s: %v, and the other way round %v", told(a), told(b), ok, right)
		}
		if ok {
			checkOrders(t, "two tables", one, other)
		}
	}
}

// TestThreeTablesInWhateverOrder puts any two together first, whichever of them is ahead.
func TestThreeTablesInWhateverOrder(t *testing.T) {
	d := drawing{269}
	met := 0
	for range 1500 {
		three := []impl.Table{d.drawTable(d.drawCols("x y z"), 14), d.drawTable(d.drawCols("y z w"), 14), d.drawTable(d.drawCols("w x"), 14)}
		all := []impl.Table{}
		for _, o := range [][3]int{{0, 1, 2}, {1, 0, 2}, {0, 2, 1}, {2, 0, 1}, {1, 2, 0}, {2, 1, 0}} {
			two, ok := impl.JoinTables(three[o[0]], three[o[1]])
			if !ok {
				continue
			}
			if whole, ok := impl.JoinTables(two, three[o[2]]); ok {
				all = append(all, whole)
			}
			if whole, ok := impl.JoinTables(three[o[2]], two); ok {
				all = append(all, whole)
			}
		}
		for i := range all {
			checkOrders(t, "three tables", all[0], all[i])
		}
		if len(all) == 12 && len(all[0].Bag.Items) > 0 {
			met++
		}
	}
	if met < 300 {
		t.Errorf("the test itself is wrong: of all tables drawn just %d could be put together in each order, with rows", met)
	}
}

// TestTablesOfQuestions: what a question means is what its scans tell, put together, sieved and projected.
func TestTablesOfQuestions(t *testing.T) {
	graphs := slices.Concat(rightGraphs(), ringGraphs()[:4], drawnGraphs(30, 271), []impl.Graph{forkGraph})
	met := 0
	for i, q := range slices.Concat(meaningQueries(t), drawnQueries(600, 277)) {
		g := graphs[i%len(graphs)]
		want, right := meaningByHand(g, q)
		whole, ok := impl.Scan(g, q.Atoms[0])
		for _, a := range q.Atoms[1:] {
			next, _ := impl.Scan(g, a)
			if ok {
				whole, ok = impl.JoinTables(whole, next)
			}
		}
		if !ok || !right {
			continue
		}
		met++
		for _, f := range q.Filters {
			whole, _ = impl.Sieve(whole, f)
		}
		got, _ := impl.Project(whole, q.Out)
		if q.Each {
			got.Bag = impl.BagEach(got.Bag)
		}
		if !slices.Equal(got.Cols, q.Out) || !sameBag(got.Bag, want) {
			t.Fatalf("%+v in %v: %s; not %v", q, g, told(got), want)
		}
	}
	if met < 400 {
		t.Errorf("the test itself is wrong: just %d questions were put together", met)
	}
}

// TestTablesInOneMemory has all lists of a table side by side in one memory, each with the next one in its spare room.
func TestTablesInOneMemory(t *testing.T) {
	names := []string{"x", "y", "y", "z", "each"}
	numbers := []int{0, 1, 0, 2, 1, 1, 77}
	items := []impl.Item{item(2, 0), item(3, 0), item(4, 0), item(-1, 9)}
	for i := range 3 {
		items[i].Row = numbers[2*i : 2*i+2]
	}
	x := impl.Table{Cols: names[:2], Bag: impl.Bag{Items: items[:3]}}
	y := impl.Table{Cols: names[2:4], Bag: impl.Bag{Items: items[:3]}}
	before := fmt.Sprint(names, numbers, items)
	j, ok := impl.JoinTables(x, y)
	s, well := impl.Sieve(x, than("x", 1, "y"))
	p, fine := impl.Project(x, names[1:2])
	o, done := impl.Ordered(x, []string{"y", "x"})
	if fmt.Sprint(names, numbers, items) != before {
		t.Fatal("what was given has been written into")
	}
	if !ok || !sameTable(j, table("x y z", item(8, 0, 1, 1), item(16, 1, 1, 1))) || !impl.SameTable(x, x) || impl.SameTable(x, y) {
		t.Errorf("JoinTables = %s, %v", told(j), ok)
	}
	if !well || !sameTable(s, table("x y", item(2, 0, 1), item(3, 0, 2))) || !fine || !sameTable(p, table("y", item(6, 1), item(3, 2))) || !done || !sameTable(o, table("y x", item(2, 1, 0), item(4, 1, 1), item(3, 2, 0))) {
		t.Errorf("Sieve = %s, Project = %s, Ordered = %s", told(s), told(p), told(o))
	}
	for _, answer := range []impl.Table{j, s, p, o} {
		answer.Cols[0] = "q"
		_ = append(answer.Cols, "w")
		for i := range answer.Bag.Items {
			answer.Bag.Items[i].Row[0] = 50
			_ = append(answer.Bag.Items[i].Row, 51)
			answer.Bag.Items[i].Times = 60
		}
		_ = append(answer.Bag.Items, item(52, 53))
	}
	if fmt.Sprint(names, numbers, items) != before {
		t.Error("an answer shares memory with what was given")
	}
	if again, ok := impl.JoinTables(x, y); !ok || again.Cols[0] != "x" || again.Bag.Items[0].Row[0] != 0 || again.Bag.Items[0].Times != 8 {
		t.Errorf("JoinTables again = %s, %v", told(again), ok)
	}
}

// TestGreatTables are soon refused, and soon held against each other.
func TestGreatTables(t *testing.T) {
	x := table("x", item(1, 0))
	cols := impl.Table{Cols: slices.Repeat([]string{"x"}, 500000)}
	rows := impl.Table{Cols: []string{"x"}, Bag: impl.Bag{Items: make([]impl.Item, 500000)}}
	long := table("x", impl.Item{Row: make([]int, 500000), Times: 1})
	name := withCols(x, strings.Repeat("x", 10000000))
	for _, great := range []impl.Table{cols, rows, long, name} {
		_, ok := impl.JoinTables(x, great)
		_, other := impl.JoinTables(great, x)
		_, sieved := impl.Sieve(great, thanNum("x", 1, 1))
		_, projected := impl.Project(great, great.Cols)
		_, ordered := impl.Ordered(great, great.Cols)
		_, few := impl.Project(x, great.Cols[:len(great.Cols)-1])
		if ok || other || sieved || projected || ordered || few || impl.TableOk(great) {
			t.Error("a great table is not refused")
		}
		if !impl.SameTable(great, great) || impl.SameTable(great, x) || impl.SameTable(x, great) {
			t.Error("a great table is not the same as itself alone")
		}
	}
	if _, ok := impl.Project(x, cols.Cols); ok {
		t.Error("great cols are not refused")
	}
	if _, ok := impl.Scan(graph(1), atom("x", strings.Repeat("(", 10000000), strings.Repeat("x", 10000000))); ok || len(impl.ColsOf(atom("x", "a", name.Cols[0]))) != 2 {
		t.Error("a great atom is not refused, or has no Cols")
	}
}
