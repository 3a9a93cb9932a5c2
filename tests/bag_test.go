package tests

import (
	"fmt"
	"math"
	"slices"
	"strings"
	"testing"
	"unsafe"

	"loop.example/g00250/impl"
)

const mostBagItems = 300

func item(times int, row ...int) impl.Item { return impl.Item{Row: row, Times: times} }

func bag(items ...impl.Item) impl.Bag { return impl.Bag{Items: items} }

func sameBag(a, b impl.Bag) bool {
	return slices.EqualFunc(a.Items, b.Items, func(x, y impl.Item) bool {
		return x.Times == y.Times && slices.Equal(x.Row, y.Row)
	})
}

// countedRow is the row that stands at this place among all rows of two numbers.
func countedRow(n int) []int { return []int{n / 100, n % 100} }

// longBag is a right bag of rows of two numbers, of this many Items, from this place on, with a step between.
func longBag(count, from, step, times int) impl.Bag {
	b := impl.Bag{}
	for i := range count {
		b.Items = append(b.Items, item(times, countedRow(from+i*step)...))
	}
	return b
}

// roomyRow has spare room behind it, with numbers of its own in it.
func roomyRow(row []int) []int {
	out := append(make([]int, 0, len(row)+3), row...)
	for i := range out[len(row):cap(out)] {
		out[:cap(out)][len(row)+i] = 70 + i
	}
	return out
}

func roomyBag(b impl.Bag) impl.Bag {
	out := make([]impl.Item, 0, len(b.Items)+2)
	for _, x := range b.Items {
		out = append(out, impl.Item{Row: roomyRow(x.Row), Times: x.Times})
	}
	spare := out[len(out):cap(out)]
	for i := range spare {
		spare[i] = impl.Item{Row: roomyRow([]int{60 + i}), Times: 50 + i}
	}
	return impl.Bag{Items: out}
}

// wholeRow and wholeBag tell all of a list, its place and the room behind it too.
func wholeRow(row []int) string {
	return fmt.Sprintf("%p %d %v", row, len(row), row[:cap(row)])
}

func wholeBag(b impl.Bag) string {
	out := fmt.Sprintf("%p %d", b.Items, len(b.Items))
	for _, x := range b.Items[:cap(b.Items)] {
		out += fmt.Sprintf("; %s * %d", wholeRow(x.Row), x.Times)
	}
	return out
}

type span struct{ from, behind uintptr }

func spanOfRow(row []int) span {
	from := uintptr(unsafe.Pointer(unsafe.SliceData(row)))
	return span{from, from + uintptr(cap(row))*unsafe.Sizeof(0)}
}

func spansOfBag(b impl.Bag) []span {
	from := uintptr(unsafe.Pointer(unsafe.SliceData(b.Items)))
	out := []span{{from, from + uintptr(cap(b.Items))*unsafe.Sizeof(impl.Item{})}}
	for _, x := range b.Items[:cap(b.Items)] {
		out = append(out, spanOfRow(x.Row))
	}
	return out
}

func (s span) meets(other span) bool { return s.from < other.behind && other.from < s.behind }

// checkApart asks that no two lists of the answer share memory, and none with what was given.
func checkApart(t *testing.T, name string, answer, given []span) {
	t.Helper()
	for i, s := range answer {
		if slices.ContainsFunc(answer[:i], s.meets) {
			t.Fatalf("%s: two lists of the answer share memory", name)
		}
		if slices.ContainsFunc(given, s.meets) {
			t.Fatalf("%s: the answer shares memory with an argument", name)
		}
	}
}

// rightBag is the chapter's sentence, clause by clause.
func rightBag(b impl.Bag) bool {
	right := len(b.Items) <= mostBagItems
	for i, x := range b.Items {
		right = right && len(x.Row) == len(b.Items[0].Row) && len(x.Row) <= 4 && x.Times >= 1 && x.Times <= 1000000
		for _, n := range x.Row {
			right = right && n >= 0 && n <= 99
		}
		right = right && (i == 0 || slices.Compare(b.Items[i-1].Row, x.Row) < 0)
	}
	return right
}

// addedByHand looks for the row's place in the list, without a map and without a sort.
func addedByHand(b impl.Bag, row []int, times int) (impl.Bag, bool) {
	if !rightBag(b) || times < 1 || times > 1000000 {
		return b, false
	}
	out := impl.Bag{}
	at := 0
	for ; at < len(b.Items) && slices.Compare(b.Items[at].Row, row) < 0; at++ {
		out.Items = append(out.Items, b.Items[at])
	}
	if at < len(b.Items) && slices.Equal(b.Items[at].Row, row) {
		times = min(times+b.Items[at].Times, 1000000)
		at++
	}
	out.Items = append(out.Items, item(times, row...))
	out.Items = append(out.Items, b.Items[at:]...)
	if !rightBag(out) {
		return b, false
	}
	return out, true
}

func joinedByHand(a, b impl.Bag) (impl.Bag, bool) {
	if !rightBag(a) || !rightBag(b) {
		return impl.Bag{}, false
	}
	for _, x := range b.Items {
		ok := false
		if a, ok = addedByHand(a, x.Row, x.Times); !ok {
			return impl.Bag{}, false
		}
	}
	return a, true
}

// checkAdd and checkJoin also ask that nothing is written into what is given, and that the answer is new memory.
func checkAdd(t *testing.T, b impl.Bag, row []int, times int) {
	t.Helper()
	name := fmt.Sprintf("BagAdd of %d Items, %v, %d", len(b.Items), row, times)
	want, right := addedByHand(b, row, times)
	b, row = roomyBag(b), roomyRow(row)
	before := wholeBag(b) + wholeRow(row)
	got, ok := impl.BagAdd(b, row, times)
	if ok != right || !sameBag(got, want) {
		t.Errorf("%s = %v, %v; not %v, %v", name, got, ok, want, right)
	}
	if wholeBag(b)+wholeRow(row) != before {
		t.Errorf("%s wrote into what was given", name)
	}
	checkApart(t, name, spansOfBag(got), append(spansOfBag(b), spanOfRow(row)))
}

func checkJoin(t *testing.T, a, b impl.Bag) {
	t.Helper()
	name := fmt.Sprintf("BagJoin of %d and %d Items", len(a.Items), len(b.Items))
	want, right := joinedByHand(a, b)
	a, b = roomyBag(a), roomyBag(b)
	before := wholeBag(a) + wholeBag(b)
	got, ok := impl.BagJoin(a, b)
	if ok != right || !sameBag(got, want) {
		t.Errorf("%s = %v, %v; not %v, %v", name, got, ok, want, right)
	}
	if other, ok := impl.BagJoin(b, a); ok != right || !sameBag(other, want) {
		t.Errorf("%s the other way round = %v, %v; not %v, %v", name, other, ok, want, right)
	}
	if wholeBag(a)+wholeBag(b) != before {
		t.Errorf("%s wrote into what was given", name)
	}
	checkApart(t, name, spansOfBag(got), append(spansOfBag(a), spansOfBag(b)...))
}

// checkText asks for this text of the bag, and for the bag of this text.
func checkText(t *testing.T, b impl.Bag, text string) {
	t.Helper()
	b = roomyBag(b)
	before := wholeBag(b)
	if s, ok := impl.BagText(b); s != text || !ok {
		t.Errorf("BagText(%v) = %q, %v; not %q", b, s, ok, text)
	}
	if wholeBag(b) != before {
		t.Errorf("BagText(%v) wrote into what was given", b)
	}
	got, ok := impl.ReadBag(text)
	if !ok || !sameBag(got, b) {
		t.Errorf("ReadBag(%q) = %v, %v; not %v", text, got, ok, b)
	}
	checkApart(t, "ReadBag", spansOfBag(got), spansOfBag(b))
}

func checkNoBag(t *testing.T, text string) {
	t.Helper()
	if b, ok := impl.ReadBag(text); len(b.Items) != 0 || ok {
		t.Errorf("ReadBag(%q) = %v, %v; not refused", text, b, ok)
	}
}

// textByHand tells a bag whether it is right or not.
func textByHand(b impl.Bag) string {
	out := varByHand(len(b.Items))
	for _, x := range b.Items {
		out += varByHand(len(x.Row))
		for _, n := range x.Row {
			out += varByHand(n)
		}
		out += varByHand(x.Times)
	}
	return out
}

func varByHand(n int) string {
	if n < 128 {
		return string([]byte{byte(n)})
	}
	return string([]byte{byte(n%128 + 128)}) + varByHand(n/128)
}

// wrongBags has one fault each, all else being right.
func wrongBags() map[string]impl.Bag {
	return map[string]impl.Bag{
		"a row twice":              bag(item(1, 1, 2), item(1, 1, 2)),
		"a row twice, apart":       bag(item(1, 1), item(1, 2), item(1, 1)),
		"rows out of order":        bag(item(1, 2, 0), item(1, 1, 9)),
		"out of order at the end":  bag(item(1, 1), item(1, 3), item(1, 2)),
		"a shorter row behind":     bag(item(1, 1, 2), item(1, 3)),
		"a longer row behind":      bag(item(1, 1), item(1, 2, 3)),
		"a beginning ahead":        bag(item(1, 1), item(1, 1, 0)),
		"a row of nothing ahead":   bag(item(1), item(1, 0)),
		"rows of nothing twice":    bag(item(1), item(1)),
		"a row one too wide":       bag(item(1, 1, 2, 3, 4, 5)),
		"a number below 0":         bag(item(1, 0, -1)),
		"a number above MaxVal":    bag(item(1, impl.MaxVal+1)),
		"a great number":           bag(item(1, 3, math.MaxInt)),
		"a least number":           bag(item(1, math.MinInt, 3)),
		"a last number wrong":      bag(item(1, 1, 1, 1, 1), item(1, 2, 2, 2, 100)),
		"a Times of 0":             bag(item(0, 1)),
		"a Times below 0":          bag(item(-1, 1)),
		"a Times above MaxTimes":   bag(item(impl.MaxTimes+1, 1)),
		"a great Times":            bag(item(math.MaxInt, 1)),
		"a least Times":            bag(item(math.MinInt, 1)),
		"a last Times of 0":        bag(item(1, 1), item(1, 2), item(0, 3)),
		"a last Times too great":   bag(item(1, 1), item(impl.MaxTimes+1, 2)),
		"one Item too many":        longBag(mostBagItems+1, 0, 1, 1),
		"many Items too many":      longBag(700, 0, 1, 1),
		"a fault in the last Item": bag(append(longBag(mostBagItems-1, 0, 1, 1).Items, item(0, 99, 99))...),
	}
}

// rightBags are of rows of no number, of one, of two, and of MaxWide.
func rightBags() []impl.Bag {
	return []impl.Bag{
		{}, bag(item(1)), bag(item(impl.MaxTimes)), bag(item(1, 0)), bag(item(1, impl.MaxVal)), bag(item(7, impl.MaxVal-1), item(1, impl.MaxVal)),
		bag(item(3, 1, 9), item(1, 2, 1)), bag(item(1, 0, 0, 0, 0), item(impl.MaxTimes, impl.MaxVal, impl.MaxVal, impl.MaxVal, impl.MaxVal)),
		bag(item(200, 5, 1, 0), item(impl.MaxTimes-1, 5, 1, 1), item(128, 5, 2, 0), item(127, 6, 0, 0)),
		longBag(mostBagItems, 0, 1, 1), longBag(mostBagItems, 1, 33, impl.MaxTimes), longBag(mostBagItems-1, 100, 7, 20000), longBag(150, 0, 2, 5),
	}
}

// drawnBags are right bags of rows of this length, with many rows in common; what is drawn hangs on the seed alone.
func drawnBags(count, wide, most int, seed uint32) []impl.Bag {
	draw := func(below int) int {
		seed = seed*1664525 + 1013904223
		return int(seed>>8) % below
	}
	out := []impl.Bag{}
	for range count {
		b := impl.Bag{}
		for range draw(most + 1) {
			row := make([]int, wide)
			for i := range row {
				row[i] = draw(4)
			}
			times := []int{1, 2, 127, 128, 500000, impl.MaxTimes}[draw(6)]
			if more, ok := addedByHand(b, row, times); ok {
				b = more
			}
		}
		out = append(out, b)
	}
	return out
}

func TestConstantsOfBags(t *testing.T) {
	if impl.MaxWide != 4 || impl.MaxVal != 99 || impl.MaxTimes != 1000000 {
		t.Error("a limit of the bags is not the document's")
	}
}

func TestRowLess(t *testing.T) {
	ascending := [][]int{
		{}, {math.MinInt}, {-1}, {-1, 5}, {0}, {0, -1}, {0, 0}, {0, 0, 0, 0, 0, 0}, {0, 1}, {0, 99}, {1}, {1, 0}, {2}, {9, 1}, {10}, {10, 0},
		{99, 99, 99, 98}, {99, 99, 99, 99}, {99, 99, 99, 99, 0}, {100}, {math.MaxInt},
	}
	for i, a := range ascending {
		for j, b := range ascending {
			a, b := roomyRow(a), roomyRow(b)
			if less := impl.RowLess(a, b); less != (i < j) {
				t.Errorf("RowLess(%v, %v) = %v", a, b, less)
			}
		}
	}
	if impl.RowLess(nil, nil) || impl.RowLess(nil, []int{}) || impl.RowLess([]int{}, nil) || impl.RowLess([]int{0}, nil) || !impl.RowLess(nil, []int{0}) {
		t.Error("nil is not as a row of nothing")
	}
}

func TestBagOk(t *testing.T) {
	for _, b := range rightBags() {
		b := roomyBag(b)
		before := wholeBag(b)
		if !impl.BagOk(b) {
			t.Errorf("BagOk of %d Items, %v = false", len(b.Items), b)
		}
		if wholeBag(b) != before {
			t.Errorf("BagOk(%v) wrote into what was given", b)
		}
	}
	for name, b := range wrongBags() {
		if impl.BagOk(b) {
			t.Errorf("BagOk of %s = true", name)
		}
	}
}

func TestBagOkAtEachPlace(t *testing.T) {
	for at := range 12 {
		for wide := range impl.MaxWide + 2 {
			for _, n := range []int{-1, 0, 98, 99, 100} {
				for _, times := range []int{0, 1, 999999, 1000000, 1000001} {
					b := longBag(12, 105, 3, 2)
					row := []int{b.Items[at].Row[0], n, n, n, n}[:wide]
					b.Items[at] = item(times, row...)
					if ok := impl.BagOk(b); ok != rightBag(b) {
						t.Errorf("BagOk(%v) = %v", b, ok)
					}
				}
			}
		}
	}
}

func TestBagAddAtEachPlace(t *testing.T) {
	b := bag(item(3, 1, 9), item(1, 2, 1), item(5, 2, 3), item(7, 40, 0))
	for _, row := range [][]int{{1, 9}, {2, 1}, {2, 3}, {40, 0}, {0, 0}, {1, 8}, {1, 10}, {2, 0}, {2, 2}, {2, 4}, {39, 99}, {40, 1}, {99, 99}} {
		for _, times := range []int{1, 2, impl.MaxTimes} {
			checkAdd(t, b, row, times)
		}
	}
	got, ok := impl.BagAdd(b, []int{2, 2}, 9)
	if !ok || !sameBag(got, bag(item(3, 1, 9), item(1, 2, 1), item(9, 2, 2), item(5, 2, 3), item(7, 40, 0))) {
		t.Errorf("BagAdd in the middle = %v, %v", got, ok)
	}
	got, ok = impl.BagAdd(b, []int{2, 1}, 9)
	if !ok || !sameBag(got, bag(item(3, 1, 9), item(10, 2, 1), item(5, 2, 3), item(7, 40, 0))) {
		t.Errorf("BagAdd of a row that is there = %v, %v", got, ok)
	}
}

func TestBagAddToTheEmptyBag(t *testing.T) {
	for _, row := range [][]int{nil, {}, {0}, {99}, {98, 1}, {1, 2, 3}, {0, 0, 0, 0}, {99, 99, 99, 99}, {1, 2, 3, 4, 5}, {0, 0, 0, 0, 0, 0, 0}, {-1}, {100}, {1, 100}, {1, 2, 3, -1}, {math.MinInt}, {math.MaxInt}} {
		for _, times := range []int{math.MinInt, -1, 0, 1, 2, impl.MaxTimes - 1, impl.MaxTimes, impl.MaxTimes + 1, math.MaxInt} {
			checkAdd(t, impl.Bag{}, row, times)
			checkAdd(t, bag(), row, times)
		}
	}
	if got, ok := impl.BagAdd(impl.Bag{}, nil, 1); !ok || !sameBag(got, bag(item(1))) {
		t.Errorf("BagAdd of a row of nothing = %v, %v", got, ok)
	}
	if got, ok := impl.BagAdd(impl.Bag{}, []int{1, 2, 3, 4, 5}, 1); ok || len(got.Items) != 0 {
		t.Errorf("BagAdd of a row one too wide = %v, %v", got, ok)
	}
}

func TestBagAddOfAnotherLength(t *testing.T) {
	bags := []impl.Bag{bag(item(2)), bag(item(2, 1)), bag(item(2, 1, 2)), bag(item(2, 1, 2, 3)), bag(item(2, 1, 2, 3, 4)), bag(item(2, 0, 0), item(3, 1, 0))}
	rows := [][]int{nil, {1}, {1, 2}, {1, 2, 3}, {1, 2, 3, 4}, {1, 2, 3, 4, 0}, {0}, {0, 0}, {0, 0, 0}, {0, 0, 0, 0}, {1, 0}, {1, 0, 0}, {1, 2, 0}, {1, 2, 3, 0}, {9}, {9, 9, 9}}
	for _, b := range bags {
		for _, row := range rows {
			checkAdd(t, b, row, 1)
			if got, ok := impl.BagAdd(b, row, 1); ok != (len(row) == len(b.Items[0].Row) && len(row) <= 4) || !ok && !sameBag(got, b) {
				t.Errorf("BagAdd(%v, %v, 1) = %v, %v", b, row, got, ok)
			}
		}
	}
}

func TestBagAddUpToMaxTimes(t *testing.T) {
	some := []int{1, 2, 499999, 500000, 500001, impl.MaxTimes - 2, impl.MaxTimes - 1, impl.MaxTimes}
	for _, there := range some {
		for _, times := range append([]int{math.MinInt, -1, 0, impl.MaxTimes + 1, math.MaxInt}, some...) {
			b := bag(item(4, 1), item(there, 2), item(6, 3))
			checkAdd(t, b, []int{2}, times)
			got, ok := impl.BagAdd(b, []int{2}, times)
			want := there
			if times >= 1 && times <= impl.MaxTimes {
				want = min(there+times, impl.MaxTimes)
			}
			if ok != (times >= 1 && times <= impl.MaxTimes) || impl.BagTimes(got, []int{2}) != want {
				t.Errorf("BagAdd of %d to %d = %v, %v", times, there, got, ok)
			}
		}
	}
}

func TestBagAddAtTheMostItems(t *testing.T) {
	full := longBag(mostBagItems, 10, 3, 2)
	for _, row := range [][]int{countedRow(10), countedRow(13), countedRow(10 + 299*3)} {
		checkAdd(t, full, row, 5)
		if got, ok := impl.BagAdd(full, row, 5); !ok || impl.BagTimes(got, row) != 7 || len(got.Items) != mostBagItems {
			t.Errorf("BagAdd to a full bag of a row that is there = %d Items, %v", len(got.Items), ok)
		}
	}
	for _, row := range [][]int{countedRow(0), countedRow(11), countedRow(9999)} {
		checkAdd(t, full, row, 5)
		if got, ok := impl.BagAdd(full, row, 5); ok || !sameBag(got, full) {
			t.Errorf("BagAdd to a full bag of a row more = %d Items, %v", len(got.Items), ok)
		}
		checkAdd(t, longBag(mostBagItems-1, 10, 3, 2), row, 5)
		if got, ok := impl.BagAdd(longBag(mostBagItems-1, 10, 3, 2), row, 5); !ok || len(got.Items) != mostBagItems {
			t.Errorf("BagAdd to a bag that is nearly full = %d Items, %v", len(got.Items), ok)
		}
	}
}

func TestBagAddToAWrongBag(t *testing.T) {
	for name, b := range wrongBags() {
		for _, row := range [][]int{nil, {1}, {1, 2}, {5, 5}, {1, 2, 3, 4}, {1, 2, 3, 4, 5}} {
			checkAdd(t, b, row, 1)
			checkAdd(t, b, row, 0)
			if got, ok := impl.BagAdd(b, row, 1); ok || !sameBag(got, b) {
				t.Errorf("BagAdd to a bag with %s = %v, %v", name, got, ok)
			}
		}
	}
}

func TestBagJoinOfKnownBags(t *testing.T) {
	a := bag(item(1, 1, 9), item(3, 2, 1), item(5, 7, 7))
	b := bag(item(2, 0, 5), item(4, 2, 1), item(6, 2, 2), item(8, 9, 0))
	want := bag(item(2, 0, 5), item(1, 1, 9), item(7, 2, 1), item(6, 2, 2), item(5, 7, 7), item(8, 9, 0))
	for _, pair := range [][]impl.Bag{{a, b}, {b, a}} {
		if got, ok := impl.BagJoin(pair[0], pair[1]); !ok || !sameBag(got, want) {
			t.Errorf("BagJoin(%v, %v) = %v, %v", pair[0], pair[1], got, ok)
		}
	}
	for _, b := range rightBags() {
		for _, other := range rightBags() {
			checkJoin(t, b, other)
		}
		if got, ok := impl.BagJoin(b, impl.Bag{}); !ok || !sameBag(got, b) {
			t.Errorf("BagJoin with the empty bag = %v, %v; not %v", got, ok, b)
		}
		if got, ok := impl.BagJoin(impl.Bag{}, b); !ok || !sameBag(got, b) {
			t.Errorf("BagJoin to the empty bag = %v, %v; not %v", got, ok, b)
		}
		twice, ok := impl.BagJoin(b, b)
		for _, x := range b.Items {
			if !ok || len(twice.Items) != len(b.Items) || impl.BagTimes(twice, x.Row) != min(2*x.Times, impl.MaxTimes) {
				t.Errorf("BagJoin of %v with itself = %v, %v", b, twice, ok)
			}
		}
	}
}

func TestBagJoinOfOneBagWithItsOwnMemory(t *testing.T) {
	b := roomyBag(bag(item(1, 1, 9), item(3, 2, 1)))
	before := wholeBag(b)
	got, ok := impl.BagJoin(b, b)
	if !ok || !sameBag(got, bag(item(2, 1, 9), item(6, 2, 1))) || wholeBag(b) != before {
		t.Errorf("BagJoin of a bag with itself = %v, %v", got, ok)
	}
	checkApart(t, "BagJoin", spansOfBag(got), spansOfBag(b))
	list := []int{1, 2, 3, 4}
	common := bag(item(1, list[:2]...), item(1, list[1:3]...), item(1, list[2:]...))
	got, ok = impl.BagAdd(common, list[1:3], 1)
	if !ok || !sameBag(got, bag(item(1, 1, 2), item(2, 2, 3), item(1, 3, 4))) {
		t.Errorf("BagAdd of rows in one list = %v, %v", got, ok)
	}
	checkApart(t, "BagAdd", spansOfBag(got), append(spansOfBag(common), spanOfRow(list)))
}

func TestBagJoinUpToMaxTimes(t *testing.T) {
	for _, c := range [][]int{{1, 1, 2}, {1, impl.MaxTimes, impl.MaxTimes}, {impl.MaxTimes - 1, 1, impl.MaxTimes}, {impl.MaxTimes - 1, 2, impl.MaxTimes}, {impl.MaxTimes, impl.MaxTimes, impl.MaxTimes}, {500000, 499999, 999999}, {500000, 500000, impl.MaxTimes}, {500000, 500001, impl.MaxTimes}} {
		a, b := bag(item(c[0], 3), item(2, 4)), bag(item(1, 2), item(c[1], 3))
		checkJoin(t, a, b)
		if got, ok := impl.BagJoin(a, b); !ok || !sameBag(got, bag(item(1, 2), item(c[2], 3), item(2, 4))) {
			t.Errorf("BagJoin of %d and %d times = %v, %v", c[0], c[1], got, ok)
		}
	}
}

func TestBagJoinAtTheMostItems(t *testing.T) {
	for _, c := range []struct {
		a, b  impl.Bag
		count int
	}{
		{longBag(150, 0, 2, 1), longBag(150, 1, 2, 1), 300}, {longBag(150, 0, 2, 1), longBag(151, 1, 2, 1), 0},
		{longBag(150, 0, 1, 1), longBag(150, 150, 1, 1), 300}, {longBag(150, 0, 1, 1), longBag(151, 150, 1, 1), 0},
		{longBag(300, 0, 1, 1), longBag(300, 0, 1, 1), 300}, {longBag(300, 0, 1, 1), longBag(300, 1, 1, 1), 0},
		{longBag(300, 0, 1, 1), longBag(1, 299, 1, 1), 300}, {longBag(300, 0, 1, 1), longBag(1, 300, 1, 1), 0},
		{longBag(299, 0, 1, 1), longBag(1, 300, 1, 1), 300}, {longBag(299, 0, 1, 1), longBag(2, 299, 1, 1), 0},
		{longBag(200, 0, 1, 1), longBag(200, 100, 1, 1), 300}, {longBag(200, 0, 1, 1), longBag(200, 101, 1, 1), 0},
	} {
		checkJoin(t, c.a, c.b)
		if got, ok := impl.BagJoin(c.a, c.b); ok != (c.count > 0) || len(got.Items) != c.count {
			t.Errorf("BagJoin of %d and %d Items = %d Items, %v; not %d", len(c.a.Items), len(c.b.Items), len(got.Items), ok, c.count)
		}
	}
}

func TestBagJoinRefuses(t *testing.T) {
	for name, wrong := range wrongBags() {
		for _, b := range append(rightBags(), wrong) {
			checkJoin(t, wrong, b)
			if got, ok := impl.BagJoin(wrong, b); ok || len(got.Items) != 0 {
				t.Errorf("BagJoin of a bag with %s and another = %v, %v", name, got, ok)
			}
			if got, ok := impl.BagJoin(b, wrong); ok || len(got.Items) != 0 {
				t.Errorf("BagJoin of another and a bag with %s = %v, %v", name, got, ok)
			}
		}
	}
	for a := range impl.MaxWide + 1 {
		for b := range impl.MaxWide + 1 {
			row := []int{0, 0, 0, 0}
			x, y := bag(item(1, row[:a]...)), bag(item(1, row[:b]...))
			checkJoin(t, x, y)
			if got, ok := impl.BagJoin(x, y); ok != (a == b) || len(got.Items) != 0 && a != b {
				t.Errorf("BagJoin of rows of %d and of %d numbers = %v, %v", a, b, got, ok)
			}
		}
	}
}

func TestBagsAreJoinedInWhateverOrder(t *testing.T) {
	for wide := range impl.MaxWide + 1 {
		bags := drawnBags(14, wide, 40, uint32(wide)*977+5)
		for _, a := range bags {
			for _, b := range bags {
				checkJoin(t, a, b)
				for _, c := range bags {
					checkThreeJoined(t, a, b, c)
				}
			}
		}
	}
}

func checkThreeJoined(t *testing.T, a, b, c impl.Bag) {
	t.Helper()
	ab, first := impl.BagJoin(a, b)
	bc, second := impl.BagJoin(b, c)
	x, third := impl.BagJoin(ab, c)
	y, fourth := impl.BagJoin(a, bc)
	if !first || !second || !third || !fourth || !sameBag(x, y) {
		t.Fatalf("(%v, %v), %v = %v, %v; not %v, %v", a, b, c, x, third, y, fourth)
	}
	for _, all := range []impl.Bag{a, b, c} {
		for _, i := range all.Items {
			want := min(impl.BagTimes(a, i.Row)+impl.BagTimes(b, i.Row)+impl.BagTimes(c, i.Row), impl.MaxTimes)
			if impl.BagTimes(x, i.Row) != want {
				t.Fatalf("%v, %v, %v joined have %v %d times; not %d", a, b, c, i.Row, impl.BagTimes(x, i.Row), want)
			}
		}
	}
}

func TestBagAddOneByOneIsBagJoin(t *testing.T) {
	for _, b := range append(rightBags(), drawnBags(20, 3, 60, 99)...) {
		up, down, ok := impl.Bag{}, impl.Bag{}, true
		for i := range b.Items {
			forth, back := b.Items[i], b.Items[len(b.Items)-1-i]
			if up, ok = impl.BagAdd(up, forth.Row, forth.Times); !ok {
				t.Fatalf("BagAdd of %v is refused", forth)
			}
			if down, ok = impl.BagAdd(down, back.Row, back.Times); !ok {
				t.Fatalf("BagAdd of %v is refused", back)
			}
		}
		if !sameBag(up, b) || !sameBag(down, b) {
			t.Errorf("added one by one %v is %v, and %v the other way round", b, up, down)
		}
	}
}

func TestBagTimes(t *testing.T) {
	b := bag(item(3, 1, 9), item(1, 2, 1), item(impl.MaxTimes, 2, 3))
	for _, c := range []struct {
		bag   impl.Bag
		row   []int
		times int
	}{
		{b, []int{1, 9}, 3}, {b, []int{2, 1}, 1}, {b, []int{2, 3}, impl.MaxTimes}, {b, []int{2, 2}, 0}, {b, []int{9, 1}, 0},
		{b, []int{1}, 0}, {b, []int{2}, 0}, {b, []int{1, 9, 0}, 0}, {b, []int{1, 9, 2, 1}, 0}, {b, nil, 0}, {b, []int{0, 0}, 0}, {b, []int{-1, 100}, 0},
		{impl.Bag{}, nil, 0}, {impl.Bag{}, []int{1}, 0}, {bag(item(4)), nil, 4}, {bag(item(4)), []int{}, 4}, {bag(item(4)), []int{0}, 0},
		{bag(impl.Item{Row: []int{}, Times: 6}), nil, 6}, {longBag(300, 0, 1, 8), countedRow(299), 8}, {longBag(300, 0, 1, 8), countedRow(300), 0},
		// These are of bags that are not right.
		{bag(item(1, 5), item(2, 3), item(7, 5), item(9, 3)), []int{5}, 1}, {bag(item(1, 5), item(2, 3), item(7, 5), item(9, 3)), []int{3}, 2},
		{bag(item(0, 5), item(2, 5)), []int{5}, 0}, {bag(item(-4, 5), item(2, 5)), []int{5}, -4}, {bag(item(math.MaxInt, 5)), []int{5}, math.MaxInt},
		{bag(item(2, 1, 2, 3, 4, 5, 6), item(3, 1, 2, 3, 4)), []int{1, 2, 3, 4, 5, 6}, 2}, {bag(item(2, 1, 2, 3, 4, 5, 6), item(3, 1, 2, 3, 4)), []int{1, 2, 3, 4}, 3},
		{bag(item(2, 1, 2, 3, 4, 5, 6)), []int{1, 2, 3, 4, 5, 7}, 0}, {bag(item(2, -1), item(3, 1000)), []int{-1}, 2}, {bag(item(2, -1), item(3, 1000)), []int{1000}, 3},
		{bag(item(2, 1, 0), item(3, 1)), []int{1}, 3}, {longBag(2000, 0, 1, 8), countedRow(1999), 8},
	} {
		x, row := roomyBag(c.bag), roomyRow(c.row)
		before := wholeBag(x) + wholeRow(row)
		if times := impl.BagTimes(x, row); times != c.times {
			t.Errorf("BagTimes(%v, %v) = %d; not %d", c.bag, c.row, times, c.times)
		}
		if wholeBag(x)+wholeRow(row) != before {
			t.Errorf("BagTimes(%v, %v) wrote into what was given", c.bag, c.row)
		}
	}
}

func TestBagEach(t *testing.T) {
	bags := rightBags()
	for _, b := range wrongBags() {
		bags = append(bags, b)
	}
	list := []int{4, 4, 4}
	bags = append(bags, bag(item(9, list...), item(9, list...), item(9, list[1:]...)))
	for _, b := range bags {
		given := roomyBag(b)
		before := wholeBag(given)
		got := impl.BagEach(given)
		if wholeBag(given) != before {
			t.Errorf("BagEach(%v) wrote into what was given", b)
		}
		checkApart(t, "BagEach", spansOfBag(got), spansOfBag(given))
		checkApart(t, "BagEach", spansOfBag(impl.BagEach(b)), spansOfBag(b))
		if len(got.Items) != len(b.Items) {
			t.Fatalf("BagEach(%v) = %v", b, got)
		}
		for i, x := range got.Items {
			if x.Times != 1 || !slices.Equal(x.Row, b.Items[i].Row) {
				t.Errorf("BagEach(%v) has %v at %d", b, x, i)
			}
		}
	}
}

func TestBagSize(t *testing.T) {
	for _, c := range []struct {
		bag  impl.Bag
		size int
	}{
		{impl.Bag{}, 0}, {bag(), 0}, {bag(item(1)), 1}, {bag(item(impl.MaxTimes)), impl.MaxTimes}, {bag(item(3, 1), item(4, 2)), 7},
		{bag(item(impl.MaxTimes-2, 1), item(1, 2)), impl.MaxTimes - 1}, {bag(item(impl.MaxTimes-1, 1), item(1, 2)), impl.MaxTimes}, {bag(item(impl.MaxTimes, 1), item(1, 2)), impl.MaxTimes},
		{longBag(300, 0, 1, 1), 300}, {longBag(300, 0, 1, 3333), 999900}, {longBag(300, 0, 1, 3334), impl.MaxTimes}, {longBag(300, 0, 1, impl.MaxTimes), impl.MaxTimes},
	} {
		if size := impl.BagSize(c.bag); size != c.size {
			t.Errorf("BagSize of %d Items, %v = %d; not %d", len(c.bag.Items), c.bag, size, c.size)
		}
	}
	for name, b := range wrongBags() {
		if size := impl.BagSize(b); size != 0 {
			t.Errorf("BagSize of a bag with %s = %d", name, size)
		}
	}
}

func TestBagTexts(t *testing.T) {
	checkText(t, impl.Bag{}, "\x00")
	checkText(t, bag(item(1)), "\x01\x00\x01")
	checkText(t, bag(item(300)), "\x01\x00\xac\x02")
	checkText(t, bag(item(1, 0)), "\x01\x01\x00\x01")
	checkText(t, bag(item(1, 1, 9), item(3, 2, 1)), "\x02\x02\x01\x09\x01\x02\x02\x01\x03")
	checkText(t, bag(item(128, 0, 0, 0, 0), item(impl.MaxTimes, 99, 99, 99, 99)), "\x02\x04\x00\x00\x00\x00\x80\x01\x04\x63\x63\x63\x63\xc0\x84\x3d")
	for _, b := range append(rightBags(), drawnBags(60, 2, 30, 3)...) {
		checkText(t, b, textByHand(b))
	}
	if s, ok := impl.BagText(longBag(300, 0, 1, 1)); !ok || !strings.HasPrefix(s, "\xac\x02\x02\x00\x00\x01\x02\x00\x01\x01") || len(s) != 2+300*4 {
		t.Errorf("BagText of 300 Items = %d bytes, %v", len(s), ok)
	}
}

func TestBagTextOfWrongBags(t *testing.T) {
	for name, b := range wrongBags() {
		if s, ok := impl.BagText(b); s != "" || ok {
			t.Errorf("BagText of a bag with %s = %q, %v", name, s, ok)
		}
		told := true
		for _, x := range b.Items {
			for _, n := range append([]int{x.Times}, x.Row...) {
				told = told && n >= 0 && n <= impl.MaxNumber
			}
		}
		if told {
			checkNoBag(t, textByHand(b))
		}
	}
}

func TestReadBagOfSpoiltTexts(t *testing.T) {
	for _, b := range []impl.Bag{{}, bag(item(1)), bag(item(300, 5)), bag(item(1, 1, 9), item(3, 2, 1)), bag(item(200, 1, 2, 3, 4), item(impl.MaxTimes, 1, 2, 3, 5)), longBag(300, 0, 1, 128)} {
		text := textByHand(b)
		for at := 0; at < len(text); at += 1 + len(text)/200 {
			checkNoBag(t, text[:at])
			checkAsTold(t, text[:at]+text[at+1:])
			checkAsTold(t, text[at:])
		}
		for at := 0; at <= len(text); at += 1 + len(text)/40 {
			for n := 0; n < 256; n += 1 + len(text)/100 {
				checkAsTold(t, text[:at]+string([]byte{byte(n)})+text[at:])
				if at < len(text) {
					checkAsTold(t, text[:at]+string([]byte{byte(n)})+text[at+1:])
				}
			}
		}
		checkNoBag(t, text+"\x00")
		checkNoBag(t, text+text)
		checkNoBag(t, text+"\x01\x00\x01")
	}
	checkNoBag(t, "")
}

// checkAsTold asks, of a text that may be another bag's, that it is refused, or is what is told of the answer.
func checkAsTold(t *testing.T, text string) {
	t.Helper()
	b, ok := impl.ReadBag(text)
	if ok != (rightBag(b) && textByHand(b) == text) || !ok && len(b.Items) != 0 {
		t.Fatalf("ReadBag(%q) = %v, %v", text, b, ok)
	}
	if told, right := readByHand(text); ok != right || !sameBag(b, told) {
		t.Fatalf("ReadBag(%q) = %v, %v; not %v, %v", text, b, ok, told, right)
	}
}

// readByHand has no limits of its own but those of rightBag, and takes a number in whatever form; what it read must be told just so.
func readByHand(text string) (impl.Bag, bool) {
	at, b := 0, impl.Bag{}
	next := func() int {
		n, shift, last := 0, 0, false
		for ; at < len(text) && !last; at++ {
			n += int(text[at]%128) << shift
			last = text[at] < 128 || shift > 48
			shift += 7
		}
		return n
	}
	for count := next(); count > 0 && at < len(text); count-- {
		x := impl.Item{}
		for wide := next(); wide > 0 && at < len(text); wide-- {
			x.Row = append(x.Row, next())
		}
		x.Times = next()
		b.Items = append(b.Items, x)
	}
	if !rightBag(b) || textByHand(b) != text {
		return impl.Bag{}, false
	}
	return b, true
}

func TestReadBagOfWrongTexts(t *testing.T) {
	for name, text := range map[string]string{
		"a count in a longer form":           "\x80\x00",
		"a count of one in a longer form":    "\x81\x00\x01\x05\x01",
		"a length in a longer form":          "\x01\x81\x00\x05\x01",
		"a number in a longer form":          "\x01\x01\x85\x00\x01",
		"a Times in a longer form":           "\x01\x01\x05\x81\x00",
		"a count that is too great":          "\xad\x02",
		"a count of MaxNumber":               "\x80\x94\xeb\xdc\x03",
		"a count above MaxNumber":            "\xff\xff\xff\xff\x7f",
		"a length of five":                   "\x01\x05\x01\x02\x03\x04\x05\x01",
		"a length of MaxNumber":              "\x01\x80\x94\xeb\xdc\x03\x01",
		"a number of 100":                    "\x01\x01\x64\x01",
		"a number of 128":                    "\x01\x01\x80\x01\x01",
		"a Times of 0":                       "\x01\x01\x05\x00",
		"a last Times of 0":                  "\x02\x01\x05\x01\x01\x06\x00",
		"a Times of MaxTimes and 1":          "\x01\x01\x05\xc1\x84\x3d",
		"a Times of MaxNumber":               "\x01\x01\x05\x80\x94\xeb\xdc\x03",
		"rows out of order":                  "\x02\x01\x06\x01\x01\x05\x01",
		"a row twice":                        "\x02\x01\x05\x01\x01\x05\x01",
		"a row of nothing twice":             "\x02\x00\x01\x00\x01",
		"rows of two lengths":                "\x02\x01\x05\x01\x02\x06\x00\x01",
		"rows of two lengths, shorter later": "\x02\x02\x05\x00\x01\x01\x06\x01",
		"a row and a beginning of it":        "\x02\x01\x05\x01\x02\x05\x00\x01",
		"an Item too few":                    "\x02\x01\x05\x01",
		"an Item too many":                   "\x01\x01\x05\x01\x01\x06\x01",
		"no Times":                           "\x01\x01\x05",
		"no number":                          "\x01\x01",
		"no length":                          "\x01",
		"a number that does not end":         "\x01\x01\x05\x80",
		"a byte behind the empty bag":        "\x00\x00",
	} {
		b, ok := impl.ReadBag(text)
		if ok || len(b.Items) != 0 {
			t.Errorf("ReadBag of %s, %q = %v, %v", name, text, b, ok)
		}
	}
}

func TestBagsOfShortTexts(t *testing.T) {
	some := []byte{0, 1, 2, 3, 4, 5, 99, 100, 127, 128, 129, 255}
	texts := []string{""}
	for range 4 {
		longer := []string{}
		for _, text := range texts {
			checkAsTold(t, text)
			for _, b := range some {
				longer = append(longer, text+string([]byte{b}))
			}
		}
		texts = longer
	}
	for _, text := range texts {
		checkAsTold(t, text)
	}
}
