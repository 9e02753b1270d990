package tests

import (
	"math"
	"math/big"
	"math/rand"
	"slices"
	"testing"

	"loop.example/g01927/impl"
)

// Promise 5, histograms: the histogram of the rows of a table is the sum of those of its blocks, in any order.

// A countedCell is the cell with this index and number of rows.
type countedCell struct {
	at int
	n  int
}

// histogramWith returns a histogram in which all other cells are 0.
func histogramWith(counted ...countedCell) []int {
	h := make([]int, 12)
	for _, c := range counted {
		h[c.at] = c.n
	}
	return h
}

func filled(cells int, n int) []int { return slices.Repeat([]int{n}, cells) }

// modelHistogram counts the rows anew for each group and each list of values of Y.
func modelHistogram(l []impl.Row) []int {
	var h []int
	for group := 0; group < 4; group++ {
		for _, band := range [][]int{{0, 1, 2}, {3, 4, 5}, {6, 7, 8}} {
			n := 0
			for _, r := range l {
				if impl.IsValidRow(r) && r.Group == group && slices.Contains(band, r.Y) {
					n++
				}
			}
			h = append(h, n)
		}
	}
	return h
}

// modelIsHistogram adds the cells up without any limit, and only then looks at them.
func modelIsHistogram(h []int) bool {
	sum := new(big.Int)
	for _, n := range h {
		sum.Add(sum, big.NewInt(int64(n)))
	}
	isBeyond := func(n int) bool { return n != n%100 || n < 0 }
	return len(h) == 12 && !slices.ContainsFunc(h, isBeyond) && sum.Cmp(big.NewInt(100)) < 0
}

// validHistograms returns histograms at their limits and between them.
func validHistograms() [][]int {
	all := [][]int{
		histogramWith(), filled(12, 1), filled(12, 8),
		{8, 8, 8, 8, 8, 8, 8, 8, 8, 8, 8, 11}, {11, 8, 8, 8, 8, 8, 8, 8, 8, 8, 8, 8}, {1, 2, 3, 4, 5, 6, 7, 8, 9, 10, 11, 12}, {12, 11, 10, 9, 8, 7, 6, 5, 4, 3, 2, 22},
		histogramWith(countedCell{0, 98}, countedCell{11, 1}), histogramWith(countedCell{0, 1}, countedCell{11, 98}), histogramWith(countedCell{5, 49}, countedCell{6, 50}),
		histogramWith(countedCell{3, 33}, countedCell{4, 33}, countedCell{5, 33}),
	}
	for at := range 12 {
		for _, n := range []int{1, 50, 98, 99} {
			all = append(all, histogramWith(countedCell{at, n}))
		}
	}
	return all
}

// invalidHistograms returns lists with too few or too many cells, with cells beyond their limits, and with a sum beyond its limit.
func invalidHistograms() [][]int {
	all := [][]int{
		nil, {}, filled(12, 1)[:0], filled(12, 0)[:11], {0}, {1}, {99}, {-1}, {100},
		filled(11, 0), filled(13, 0), filled(3, 0), filled(4, 0), filled(9, 1), filled(24, 0), filled(1000, 0), filled(11, 9), filled(13, 1),
		filled(12, 9), filled(12, 99), filled(12, 100), filled(12, -1), filled(12, math.MaxInt), filled(12, math.MinInt),
		{8, 8, 8, 8, 8, 8, 8, 8, 8, 8, 8, 12}, {12, 8, 8, 8, 8, 8, 8, 8, 8, 8, 8, 8}, {12, 11, 10, 9, 8, 7, 6, 5, 4, 3, 2, 23},
		histogramWith(countedCell{5, 50}, countedCell{6, 50}), histogramWith(countedCell{3, 33}, countedCell{4, 33}, countedCell{5, 34}),
	}
	for at := range 12 {
		for _, n := range []int{-1, -2, -99, -100, 100, 101, 1 << 32, 1<<32 + 1, -1 << 32, math.MaxInt, math.MinInt} {
			all = append(all, histogramWith(countedCell{at, n}))
		}
		other := (at + 5) % 12
		// The sum of each of these is from 0 to 99, some of them only because it wraps around.
		all = append(all,
			histogramWith(countedCell{at, -1}, countedCell{other, 1}), histogramWith(countedCell{at, 100}, countedCell{other, -1}), histogramWith(countedCell{at, -50}, countedCell{other, 99}),
			histogramWith(countedCell{at, math.MinInt}, countedCell{other, math.MinInt}), histogramWith(countedCell{at, math.MaxInt}, countedCell{other, -math.MaxInt}),
			histogramWith(countedCell{at, math.MaxInt}, countedCell{other, math.MaxInt}, countedCell{(at + 1) % 12, 3}))
		all = append(all, histogramWith(countedCell{at, 99}, countedCell{other, 1}), histogramWith(countedCell{at, 99}, countedCell{other, 99}), histogramWith(countedCell{at, 1}, countedCell{other, 99}))
	}
	return all
}

func TestBands(t *testing.T) {
	if impl.Bands != 3 {
		t.Errorf("there are %d bands", impl.Bands)
	}
	want := map[int]int{0: 0, 1: 0, 2: 0, 3: 1, 4: 1, 5: 1, 6: 2, 7: 2, 8: 2}
	check := func(y int) {
		band, ok := want[y]
		if !ok {
			band = -1
		}
		if got := impl.BandOf(y); got != band {
			t.Errorf("BandOf(%d) = %d, want %d", y, got, band)
		}
	}
	for y := -1000; y <= 1000; y++ {
		check(y)
	}
	for _, y := range []int{1 << 32, 1<<32 + 4, -1 << 32, math.MaxInt, math.MaxInt - 1, math.MinInt, math.MinInt + 1} {
		check(y)
	}
}

func TestHistogramOf(t *testing.T) {
	cases := []struct {
		l    []impl.Row
		want []int
	}{
		{nil, filled(12, 0)},
		{[]impl.Row{}, filled(12, 0)},
		{rowsOf(1, 2)[:0], filled(12, 0)},
		{rowsOf(1), []int{1, 0, 0, 0, 0, 0, 0, 0, 0, 0, 0, 0}},
		{rowsOf(1, 2, 3), []int{3, 0, 0, 0, 0, 0, 0, 0, 0, 0, 0, 0}},
		{rowsOf(1, 2, 3)[:2], []int{2, 0, 0, 0, 0, 0, 0, 0, 0, 0, 0, 0}},
		{[]impl.Row{{ID: 1, X: 5}, {ID: 2, Y: 1, X: -3}, {ID: 3, Group: 1, Y: 4, X: 10}}, []int{2, 0, 0, 0, 1, 0, 0, 0, 0, 0, 0, 0}},
		{[]impl.Row{{ID: 4, Group: 1, Y: 7, Null: true}, {ID: 5, Group: 1, Y: 8, X: 2}}, []int{0, 0, 0, 0, 0, 2, 0, 0, 0, 0, 0, 0}},
		{[]impl.Row{{ID: 1, Y: 2}, {ID: 2, Y: 3}, {ID: 3, Y: 5}, {ID: 4, Y: 6}}, []int{1, 2, 1, 0, 0, 0, 0, 0, 0, 0, 0, 0}},
		{[]impl.Row{{ID: 1, Group: 3, Y: 8}, {ID: 2, Group: 3}, {ID: 3, Group: 2, Y: 6}, {ID: 4, Group: 2, Y: 3}}, []int{0, 0, 0, 0, 0, 0, 0, 1, 1, 1, 0, 1}},
		// Rows that are not valid are ignored, wherever they are.
		{invalidRows, filled(12, 0)},
		{[]impl.Row{{}, {ID: 1, Y: 4}, {ID: 1, Group: 4}, {ID: 2, Y: 9}, {ID: 99, Group: 2, Y: 4}, {ID: 100}}, []int{0, 1, 0, 0, 0, 0, 0, 1, 0, 0, 0, 0}},
		// The list need be no list of rows of a block: every valid row counts, in any order and as often as it occurs.
		{rowsOf(9, 5, 1), []int{3, 0, 0, 0, 0, 0, 0, 0, 0, 0, 0, 0}},
		{[]impl.Row{{ID: 7, Y: 3}, {ID: 7, Y: 3}, {ID: 7, Group: 1, Y: 3}, {ID: 7, Y: 3, Null: true}}, []int{0, 3, 0, 0, 1, 0, 0, 0, 0, 0, 0, 0}},
	}
	for _, c := range cases {
		h := impl.HistogramOf(c.l)
		if !slices.Equal(h, c.want) || !impl.IsHistogram(h) {
			t.Errorf("HistogramOf(%v) = %v, want %v", c.l, h, c.want)
		}
	}
}

func TestHistogramOfEveryRow(t *testing.T) {
	eachRow([]int{1, 50, 99}, func(r impl.Row) {
		want := histogramWith(countedCell{3*r.Group + r.Y/3, 1})
		if h := impl.HistogramOf([]impl.Row{r}); !slices.Equal(h, want) {
			t.Fatalf("HistogramOf(%v) = %v, want %v", r, h, want)
		}
	})
	for _, r := range invalidRows {
		if h := impl.HistogramOf([]impl.Row{r}); !slices.Equal(h, filled(12, 0)) {
			t.Errorf("HistogramOf(%v) = %v, want cells of 0", r, h)
		}
	}
}

func TestHistogramOfEveryField(t *testing.T) {
	for n := -300; n <= 300; n++ {
		l := []impl.Row{
			{ID: n}, {ID: n, Group: 3, Y: 8}, {ID: 1, Group: n, Y: 4}, {ID: 1, Group: n, Null: true},
			{ID: 1, Group: 2, Y: n}, {ID: 1, Y: n, Null: true}, {ID: 1, Group: 1, X: n}, {ID: 1, Group: 1, X: n, Null: true},
		}
		if h, want := impl.HistogramOf(l), modelHistogram(l); !slices.Equal(h, want) {
			t.Errorf("HistogramOf(%v) = %v, want %v", l, h, want)
		}
	}
}

func TestHistogramOfManyRows(t *testing.T) {
	for _, n := range []int{98, 99, 100, 101, 1000} {
		for at := range 12 {
			same := slices.Repeat([]impl.Row{{ID: 4, Group: at / 3, Y: at%3*3 + n%3}}, n)
			want := histogramWith(countedCell{at, n})
			if h := impl.HistogramOf(same); !slices.Equal(h, want) || impl.IsHistogram(h) != (n <= 99) {
				t.Errorf("HistogramOf %d rows = %v, want %v", n, h, want)
			}
		}
		var mixed []impl.Row
		for id := 1; id <= n; id++ {
			mixed = append(mixed, impl.Row{ID: 1 + id%99, Group: id % 4, Y: id % 9})
		}
		if h, want := impl.HistogramOf(mixed), modelHistogram(mixed); !slices.Equal(h, want) || impl.IsHistogram(h) != (n <= 99) {
			t.Errorf("HistogramOf %d mixed rows = %v, want %v", n, h, want)
		}
	}
}

func TestIsHistogram(t *testing.T) {
	for _, h := range validHistograms() {
		if !impl.IsHistogram(h) || !modelIsHistogram(h) {
			t.Errorf("IsHistogram(%v) is false", h)
		}
	}
	for _, h := range invalidHistograms() {
		if impl.IsHistogram(h) || modelIsHistogram(h) {
			t.Errorf("IsHistogram(%v) is true", h)
		}
	}
}

func TestIsHistogramOfEveryNumberOfCells(t *testing.T) {
	array := make([]int, 100)
	for cells := range array {
		// The cells behind the list, in the unused capacity, are none of it.
		if want := cells == 12; impl.IsHistogram(array[:cells]) != want || impl.IsHistogram(filled(cells, 1)) != want {
			t.Errorf("IsHistogram of %d cells is %v", cells, !want)
		}
	}
}

func TestIsHistogramOfEveryCell(t *testing.T) {
	for at := range 12 {
		for n := -300; n <= 300; n++ {
			if h := histogramWith(countedCell{at, n}); impl.IsHistogram(h) != (0 <= n && n <= 99) {
				t.Errorf("IsHistogram(%v) is %v", h, impl.IsHistogram(h))
			}
		}
		for other := range at {
			for n := -1; n <= 100; n++ {
				for sum := 98; sum <= 101; sum++ {
					h := histogramWith(countedCell{at, n}, countedCell{other, sum - n})
					if want := 0 <= n && n <= sum && sum <= 99; impl.IsHistogram(h) != want {
						t.Errorf("IsHistogram(%v) is %v", h, !want)
					}
				}
			}
		}
	}
}

func TestCellOf(t *testing.T) {
	h := []int{1, 2, 3, 4, 5, 6, 7, 8, 9, 10, 11, 12}
	for group := -20; group <= 20; group++ {
		for band := -20; band <= 20; band++ {
			want := 0
			if 0 <= group && group < 4 && 0 <= band && band < 3 {
				want = 1 + 3*group + band
			}
			if n := impl.CellOf(h, group, band); n != want {
				t.Errorf("CellOf(%v, %d, %d) = %d, want %d", h, group, band, n, want)
			}
		}
	}
	// Three times the last groups, or the last bands added to them, wrap around to an index that there is.
	third := math.MaxInt/3 + 1
	for _, n := range []int{1 << 32, -1 << 32, 1 << 62, -1 << 62, math.MaxInt, math.MinInt, math.MinInt + 1, -2*third - 1, -2 * third, 2*third - 1, third, -third} {
		for small := -3; small <= 15; small++ {
			if a, b := impl.CellOf(h, n, small), impl.CellOf(h, small, n); a != 0 || b != 0 {
				t.Errorf("CellOf(%v, %d, %d) = %d, and with the band before the group %d", h, n, small, a, b)
			}
			if c := impl.CellOf(h, n, small-3*n); c != 0 {
				t.Errorf("CellOf(%v, %d, %d) = %d, want 0", h, n, small-3*n, c)
			}
		}
	}
}

func TestCellsAndTotalOfEveryHistogram(t *testing.T) {
	for _, h := range validHistograms() {
		sum := 0
		for group := range 4 {
			for band := range 3 {
				want := h[3*group+band]
				if n := impl.CellOf(h, group, band); n != want {
					t.Errorf("CellOf(%v, %d, %d) = %d, want %d", h, group, band, n, want)
				}
				sum += want
			}
		}
		if n := impl.TotalOf(h); n != sum {
			t.Errorf("TotalOf(%v) = %d, want %d", h, n, sum)
		}
	}
	for _, h := range invalidHistograms() {
		if n := impl.TotalOf(h); n != 0 {
			t.Errorf("TotalOf(%v) = %d, want 0", h, n)
		}
		for group := -1; group <= 4; group++ {
			for band := -1; band <= 3; band++ {
				if n := impl.CellOf(h, group, band); n != 0 {
					t.Errorf("CellOf(%v, %d, %d) = %d, want 0", h, group, band, n)
				}
			}
		}
	}
}

func TestTotalOf(t *testing.T) {
	cases := []struct {
		h    []int
		want int
	}{
		{nil, 0}, {filled(12, 0), 0}, {filled(12, 1), 12}, {filled(12, 8), 96}, {filled(12, 9), 0}, {filled(11, 1), 0}, {filled(13, 1), 0},
		{[]int{1, 2, 3, 4, 5, 6, 7, 8, 9, 10, 11, 12}, 78}, {histogramWith(countedCell{0, 99}), 99}, {histogramWith(countedCell{11, 99}), 99}, {histogramWith(countedCell{11, 100}), 0},
		{histogramWith(countedCell{3, 98}, countedCell{7, 1}), 99}, {histogramWith(countedCell{3, 98}, countedCell{7, 2}), 0}, {histogramWith(countedCell{3, 98}, countedCell{7, -1}), 0},
	}
	for _, c := range cases {
		if n := impl.TotalOf(c.h); n != c.want {
			t.Errorf("TotalOf(%v) = %d, want %d", c.h, n, c.want)
		}
	}
}

// checkAdd compares AddHistograms with sums of the cells that have no limit.
func checkAdd(t *testing.T, a []int, b []int) {
	t.Helper()
	var want []int
	valid := modelIsHistogram(a) && modelIsHistogram(b)
	if valid {
		for i := range 12 {
			want = append(want, a[i]+b[i])
		}
		valid = modelIsHistogram(want)
	}
	if !valid {
		want = nil
	}
	heldA, heldB := slices.Clone(a), slices.Clone(b)
	if got, ok := impl.AddHistograms(a, b); !slices.Equal(got, want) || ok != valid {
		t.Errorf("AddHistograms(%v, %v) = %v, %v, want %v, %v", a, b, got, ok, want, valid)
	}
	if !slices.Equal(a, heldA) || !slices.Equal(b, heldB) {
		t.Errorf("AddHistograms changes %v and %v to %v and %v", heldA, heldB, a, b)
	}
}

func TestAddHistograms(t *testing.T) {
	h := []int{2, 0, 0, 0, 1, 0, 0, 0, 0, 0, 0, 0}
	g := []int{0, 0, 0, 0, 0, 2, 0, 0, 0, 0, 0, 0}
	if s, ok := impl.AddHistograms(h, g); !slices.Equal(s, []int{2, 0, 0, 0, 1, 2, 0, 0, 0, 0, 0, 0}) || !ok {
		t.Errorf("AddHistograms(%v, %v) = %v, %v", h, g, s, ok)
	}
	if s, ok := impl.AddHistograms(h, nil); len(s) != 0 || ok {
		t.Errorf("AddHistograms(%v, nil) = %v, %v", h, s, ok)
	}
	all := append(validHistograms(), invalidHistograms()...)
	for _, a := range all {
		for _, b := range all {
			checkAdd(t, a, b)
		}
	}
}

func TestAddHistogramsAtTheLimit(t *testing.T) {
	for at := range 12 {
		for other := range 12 {
			for n := range 100 {
				for sum := 97; sum <= 102; sum++ {
					checkAdd(t, histogramWith(countedCell{at, n}), histogramWith(countedCell{other, sum - n}))
				}
			}
		}
	}
	// Cells and sums within the limits in both, but not in the result.
	for _, n := range []int{99, 98, 51, 50} {
		a := histogramWith(countedCell{2, n})
		checkAdd(t, a, a)
		checkAdd(t, a, filled(12, 4))
	}
	checkAdd(t, filled(12, 4), filled(12, 4))
	checkAdd(t, filled(12, 4), filled(12, 5))
	checkAdd(t, filled(12, 8), histogramWith(countedCell{9, 3}))
	checkAdd(t, filled(12, 8), histogramWith(countedCell{9, 4}))
}

func TestAddHistogramsInAnyOrder(t *testing.T) {
	all := validHistograms()
	none := histogramWith()
	for _, a := range all {
		if s, ok := impl.AddHistograms(a, none); !slices.Equal(s, a) || !ok {
			t.Errorf("AddHistograms(%v, no rows) = %v, %v", a, s, ok)
		}
		for _, b := range all {
			ab, abOk := impl.AddHistograms(a, b)
			ba, baOk := impl.AddHistograms(b, a)
			if !slices.Equal(ab, ba) || abOk != baOk {
				t.Errorf("the sum of %v and %v depends on their order: %v and %v", a, b, ab, ba)
			}
			if abOk && impl.TotalOf(ab) != impl.TotalOf(a)+impl.TotalOf(b) {
				t.Errorf("AddHistograms(%v, %v) = %v does not have all rows", a, b, ab)
			}
			for _, c := range all {
				bc, _ := impl.AddHistograms(b, c)
				first, firstOk := impl.AddHistograms(ab, c)
				second, secondOk := impl.AddHistograms(a, bc)
				if !slices.Equal(first, second) || firstOk != secondOk {
					t.Errorf("the sum of %v, %v and %v depends on which are added first: %v and %v", a, b, c, first, second)
				}
			}
		}
	}
}

// sumOfBlocks adds up the histograms of the blocks in this order.
func sumOfBlocks(t *testing.T, x impl.Table, order []int) []int {
	t.Helper()
	sum := impl.HistogramOf(nil)
	for _, at := range order {
		var ok bool
		if sum, ok = impl.AddHistograms(sum, impl.HistogramOf(x.Blocks[at].Rows)); !ok {
			t.Fatalf("the histogram of block %d of %v is not added", at, x)
		}
	}
	return sum
}

func TestHistogramOfATableIsTheSumOfItsBlocks(t *testing.T) {
	random := rand.New(rand.NewSource(8))
	check := func(x impl.Table) {
		var rows []impl.Row
		for _, b := range x.Blocks {
			rows = append(rows, b.Rows...)
		}
		want := impl.HistogramOf(rows)
		if n := impl.TotalOf(want); n != impl.CountRows(x) {
			t.Fatalf("the histogram of %v has %d rows", x, n)
		}
		for range 10 {
			order := random.Perm(len(x.Blocks))
			if h := sumOfBlocks(t, x, order); !slices.Equal(h, want) {
				t.Fatalf("the histograms of the blocks of %v give %v in the order %v, want %v", x, h, order, want)
			}
		}
	}
	for _, c := range validTableTexts {
		check(c.x)
	}
	check(greatestTable())
	eachTable(func(x impl.Table) {
		if modelIsValidTable(x) {
			check(x)
		}
	})
}

func TestHistogramOfAListIsTheSumOfItsParts(t *testing.T) {
	var l []impl.Row
	for id := 1; id <= 99; id++ {
		l = append(l, fullRow(id), invalidRows[id%len(invalidRows)])
	}
	want := modelHistogram(l)
	for n := range l {
		h, ok := impl.AddHistograms(impl.HistogramOf(l[:n]), impl.HistogramOf(l[n:]))
		if !slices.Equal(h, want) || !ok {
			t.Errorf("the first %d rows and the others give %v, %v, want %v", n, h, ok, want)
		}
	}
	// One more row is one too many.
	if h, ok := impl.AddHistograms(want, impl.HistogramOf(rowsOf(1))); len(h) != 0 || ok {
		t.Errorf("100 rows give %v, %v", h, ok)
	}
}

// spaciousList returns a copy of a list within a longer array, together with this array.
func spaciousList(l []int) ([]int, []int) {
	array := filled(len(l)+20, 7)
	copy(array[3:], l)
	return array[3 : 3+len(l)], array
}

// overwriteList changes a list also in its unused capacity.
func overwriteList(l []int) {
	l = l[:cap(l)]
	for i := range l {
		l[i] = -1 - i
	}
}

func TestHistogramsAreNotModifiedOrShared(t *testing.T) {
	all := append(validHistograms(), invalidHistograms()...)
	for i, original := range all {
		a, arrayA := spaciousList(original)
		b, arrayB := spaciousList(all[i*7%len(all)])
		heldA, heldB := slices.Clone(arrayA), slices.Clone(arrayB)
		impl.IsHistogram(a)
		impl.CellOf(a, 1, 1)
		impl.CellOf(a, 4, 3)
		impl.TotalOf(a)
		results := make([][]int, 5)
		for j, pair := range [][2][]int{{a, b}, {b, a}, {a, a}, {a, filled(12, 0)}, {filled(12, 0), a}} {
			results[j], _ = impl.AddHistograms(pair[0], pair[1])
		}
		for j, s := range results {
			others := slices.Clone(results)
			for k := range others {
				others[k] = slices.Clone(others[k])
			}
			overwriteList(s)
			for k := range others {
				if k != j && !slices.Equal(results[k], others[k]) {
					t.Errorf("the sums %d and %d of %v share memory", j, k, original)
				}
			}
		}
		if !slices.Equal(arrayA, heldA) || !slices.Equal(arrayB, heldB) {
			t.Errorf("%v became %v, or %v became %v", heldA, arrayA, heldB, arrayB)
		}
		sum, _ := impl.AddHistograms(a, filled(12, 0))
		held := slices.Clone(sum)
		overwriteList(arrayA)
		if !slices.Equal(sum, held) {
			t.Errorf("the sum of %v and no rows changes with the argument", original)
		}
	}
}

func TestHistogramsOfRowsShareNoMemory(t *testing.T) {
	for _, l := range [][]impl.Row{nil, rowsOf(1, 2, 3), fullBlock(1, 1, 5, 9).Rows, invalidRows} {
		array := append(slices.Clone(l), fullRow(98), fullRow(99))
		held := slices.Clone(array)
		h := impl.HistogramOf(array[:len(l)])
		overwriteList(h)
		if again := impl.HistogramOf(array[:len(l)]); !slices.Equal(again, modelHistogram(l)) || !slices.Equal(array, held) {
			t.Errorf("HistogramOf(%v) a second time = %v", l, again)
		}
	}
}
