package tests

import (
	"math"
	"math/rand"
	"slices"
	"testing"

	"loop.example/g01927/impl"
)

// Promise 5: the summary of a table is the merge of the summaries of its blocks, in any order.

// summaryWith returns a summary of which all rows are in one cell.
func summaryWith(block int, count int, nulls int, least int, greatest int, sum int) impl.Summary {
	at := (count + nulls) % 12
	if at < 0 {
		at = 0
	}
	return impl.Summary{Block: block, Count: count, Nulls: nulls, MinX: least, MaxX: greatest, SumX: sum, Hist: histogramWith(countedCell{at, count})}
}

// withHist returns the summary with as many rows as its new histogram has.
func withHist(s impl.Summary, h []int) impl.Summary {
	s.Hist = h
	s.Count = 0
	for _, n := range h {
		s.Count += n
	}
	return s
}

// sameSummary compares summaries without EqualSummaries; a nil slice and an empty one are the same.
func sameSummary(a impl.Summary, b impl.Summary) bool {
	numbers := func(s impl.Summary) [6]int { return [6]int{s.Block, s.Count, s.Nulls, s.MinX, s.MaxX, s.SumX} }
	return numbers(a) == numbers(b) && slices.Equal(a.Hist, b.Hist)
}

func copiedSummary(s impl.Summary) impl.Summary {
	s.Hist = slices.Clone(s.Hist)
	return s
}

// modelSummary looks at the list of all X that are not null.
func modelSummary(block int, l []impl.Row) impl.Summary {
	var values []int
	for _, r := range l {
		if !r.Null {
			values = append(values, r.X)
		}
	}
	s := impl.Summary{Block: block, Count: len(l), Nulls: len(l) - len(values), Hist: modelHistogram(l)}
	if len(values) > 0 {
		s.MinX, s.MaxX = slices.Min(values), slices.Max(values)
	}
	for _, x := range values {
		s.SumX += x
	}
	return s
}

func allRows(x impl.Table) []impl.Row {
	var l []impl.Row
	for _, b := range x.Blocks {
		l = append(l, b.Rows...)
	}
	return l
}

// modelIsSummary asks how much of the sum is left when every value is the least one.
func modelIsSummary(s impl.Summary) bool {
	if !modelIsHistogram(s.Hist) || s.Block < 0 || s.Block > 20 {
		return false
	}
	rows := 0
	for _, n := range s.Hist {
		rows += n
	}
	values := rows - s.Nulls
	switch {
	case s.Count != rows || s.Nulls < 0 || s.Nulls > rows:
		return false
	case values == 0:
		return s.MinX == 0 && s.MaxX == 0 && s.SumX == 0
	case s.MinX < -99 || s.MaxX > 99 || s.MinX > s.MaxX:
		return false
	}
	left := s.SumX - values*s.MinX
	return left >= 0 && left <= values*(s.MaxX-s.MinX)
}

// validSummaryTexts lists summaries at their limits and between them, with the text of each.
var validSummaryTexts = []struct {
	s    impl.Summary
	text string
}{
	{impl.Summary{Block: 1, Count: 3, MinX: -3, MaxX: 10, SumX: 12, Hist: []int{2, 0, 0, 0, 1, 0, 0, 0, 0, 0, 0, 0}}, "#1 rows 3 nulls 0 from -3 to 10 sum 12"},
	{impl.Summary{Block: 2, Count: 2, Nulls: 1, MinX: 2, MaxX: 2, SumX: 2, Hist: []int{0, 0, 0, 0, 0, 2, 0, 0, 0, 0, 0, 0}}, "#2 rows 2 nulls 1 from 2 to 2 sum 2"},
	{impl.Summary{Hist: filled(12, 0)}, "#0 rows 0 nulls 0"},
	{summaryWith(1, 0, 0, 0, 0, 0), "#1 rows 0 nulls 0"},
	{summaryWith(20, 0, 0, 0, 0, 0), "#20 rows 0 nulls 0"},
	{summaryWith(0, 1, 1, 0, 0, 0), "#0 rows 1 nulls 1"},
	{summaryWith(19, 6, 6, 0, 0, 0), "#19 rows 6 nulls 6"},
	{summaryWith(0, 99, 99, 0, 0, 0), "#0 rows 99 nulls 99"},
	{summaryWith(20, 98, 98, 0, 0, 0), "#20 rows 98 nulls 98"},
	{summaryWith(0, 1, 0, 0, 0, 0), "#0 rows 1 nulls 0 from 0 to 0 sum 0"},
	{summaryWith(5, 1, 0, -99, -99, -99), "#5 rows 1 nulls 0 from -99 to -99 sum -99"},
	{summaryWith(5, 1, 0, 99, 99, 99), "#5 rows 1 nulls 0 from 99 to 99 sum 99"},
	{summaryWith(5, 4, 1, -3, 10, -9), "#5 rows 4 nulls 1 from -3 to 10 sum -9"},
	{summaryWith(5, 4, 1, -3, 10, 30), "#5 rows 4 nulls 1 from -3 to 10 sum 30"},
	{summaryWith(10, 6, 2, -8, -2, -32), "#10 rows 6 nulls 2 from -8 to -2 sum -32"},
	{summaryWith(10, 6, 2, -8, -2, -8), "#10 rows 6 nulls 2 from -8 to -2 sum -8"},
	{summaryWith(9, 6, 5, 1, 4, 1), "#9 rows 6 nulls 5 from 1 to 4 sum 1"},
	{summaryWith(9, 6, 5, 1, 4, 4), "#9 rows 6 nulls 5 from 1 to 4 sum 4"},
	{summaryWith(0, 50, 0, -7, 3, 0), "#0 rows 50 nulls 0 from -7 to 3 sum 0"},
	{summaryWith(0, 49, 20, 6, 8, 200), "#0 rows 49 nulls 20 from 6 to 8 sum 200"},
	{summaryWith(0, 99, 0, -99, 99, -9801), "#0 rows 99 nulls 0 from -99 to 99 sum -9801"},
	{summaryWith(0, 99, 0, -99, 99, 9801), "#0 rows 99 nulls 0 from -99 to 99 sum 9801"},
	{summaryWith(20, 99, 0, 99, 99, 9801), "#20 rows 99 nulls 0 from 99 to 99 sum 9801"},
	{summaryWith(0, 99, 98, -1, 0, -1), "#0 rows 99 nulls 98 from -1 to 0 sum -1"},
	{withHist(summaryWith(0, 0, 8, -20, 99, 1234), filled(12, 8)), "#0 rows 96 nulls 8 from -20 to 99 sum 1234"},
	{withHist(summaryWith(7, 0, 0, 12, 34, 1800), []int{1, 2, 3, 4, 5, 6, 7, 8, 9, 10, 11, 12}), "#7 rows 78 nulls 0 from 12 to 34 sum 1800"},
	{withHist(summaryWith(3, 0, 1, 5, 6, 11), histogramWith(countedCell{0, 1}, countedCell{5, 1}, countedCell{11, 1})), "#3 rows 3 nulls 1 from 5 to 6 sum 11"},
}

func validSummaries() []impl.Summary {
	var all []impl.Summary
	for _, c := range validSummaryTexts {
		all = append(all, copiedSummary(c.s))
	}
	return all
}

// invalidSummaries returns summaries of which one field is not valid or does not agree with the others.
func invalidSummaries() []impl.Summary {
	all := []impl.Summary{{}, {Hist: []int{}}, {Block: 1}, {Count: 1, MinX: 1, MaxX: 1, SumX: 1}}
	far := []int{-1 << 32, 1 << 32, math.MinInt, math.MaxInt}
	for _, s := range validSummaries() {
		changed := func(change func(s *impl.Summary, n int), numbers ...int) {
			for _, n := range numbers {
				other := copiedSummary(s)
				change(&other, n)
				all = append(all, other)
			}
		}
		values := s.Count - s.Nulls
		changed(func(s *impl.Summary, n int) { s.Block = n }, append(far, -1, -20, 21, 22)...)
		changed(func(s *impl.Summary, n int) { s.Count = n }, append(far, -1, s.Count-1, s.Count+1, 100, s.Count+1<<32)...)
		changed(func(s *impl.Summary, n int) { s.Nulls = n }, append(far, -1, -99, s.Count+1, 100)...)
		changed(func(s *impl.Summary, n int) { s.MinX = n }, append(far, s.MaxX+1, -100, 100)...)
		changed(func(s *impl.Summary, n int) { s.MaxX = n }, append(far, s.MinX-1, -100, 100)...)
		changed(func(s *impl.Summary, n int) { s.SumX = n }, append(far, values*s.MinX-1, values*s.MaxX+1, s.SumX+1<<32)...)
		if values == 0 {
			changed(func(s *impl.Summary, n int) { s.MinX, s.MaxX = n, n }, -99, -1, 1, 99)
			changed(func(s *impl.Summary, n int) { s.MinX, s.MaxX = -1, 1 }, 0)
		}
		for _, h := range [][]int{nil, {}, s.Hist[:11], append(slices.Clone(s.Hist), 0), slices.Repeat(s.Hist, 2), filled(1, s.Count)} {
			other := s
			other.Hist = slices.Clone(h)
			all = append(all, other)
		}
		for at := range 12 {
			for _, n := range []int{-1, 1, 100, math.MaxInt, math.MinInt} {
				other := copiedSummary(s)
				other.Hist[at] += n
				all = append(all, other)
			}
			moved := copiedSummary(s)
			moved.Hist[at], moved.Hist[(at+7)%12] = moved.Hist[(at+7)%12]+s.Hist[at]+1, -1
			all = append(all, moved)
		}
	}
	// The histogram has too many rows, but as many as Count.
	return append(all, summaryWith(0, 100, 0, 1, 1, 100), summaryWith(0, 100, 100, 0, 0, 0), withHist(summaryWith(0, 0, 0, 0, 1, 9), filled(12, 9)), summaryWith(0, -1, -1, 0, 0, 0), summaryWith(0, -1, 0, 0, 0, 0))
}

func TestIsSummary(t *testing.T) {
	for _, s := range validSummaries() {
		if !impl.IsSummary(s) || !modelIsSummary(s) {
			t.Errorf("IsSummary(%v) is false", s)
		}
	}
	for _, s := range invalidSummaries() {
		if impl.IsSummary(s) || modelIsSummary(s) {
			t.Errorf("IsSummary(%v) is true", s)
		}
	}
}

// checkIsSummary compares IsSummary and ValuesIn with the model.
func checkIsSummary(t *testing.T, s impl.Summary) bool {
	t.Helper()
	want, values := modelIsSummary(s), 0
	if want {
		values = s.Count - s.Nulls
	}
	if got, n := impl.IsSummary(s), impl.ValuesIn(s); got != want || n != values {
		t.Errorf("IsSummary(%v) is %v, and ValuesIn = %d, want %v and %d", s, got, n, want, values)
	}
	return want
}

func TestIsSummaryOfSmallNumbers(t *testing.T) {
	valid := 0
	for count := -1; count <= 3; count++ {
		for nulls := -1; nulls <= 4; nulls++ {
			for least := -3; least <= 3; least++ {
				for greatest := -3; greatest <= 3; greatest++ {
					for sum := -10; sum <= 10; sum++ {
						if checkIsSummary(t, summaryWith(2, count, nulls, least, greatest, sum)) {
							valid++
						}
					}
				}
			}
		}
	}
	// With n values from the least to the greatest there are 1 + n * (greatest - least) sums; the differences of all 28 pairs add up to 56.
	if want := 4 + 3*(28+56) + 2*(28+2*56) + 28 + 3*56; valid != want {
		t.Errorf("%d summaries are valid, want %d", valid, want)
	}
}

func TestIsSummaryOfEveryBlock(t *testing.T) {
	for block := -300; block <= 300; block++ {
		for _, s := range []impl.Summary{summaryWith(block, 0, 0, 0, 0, 0), summaryWith(block, 2, 1, 5, 5, 5), summaryWith(block, 99, 0, -99, 99, 0)} {
			if want := 0 <= block && block <= 20; checkIsSummary(t, s) != want {
				t.Errorf("IsSummary(%v) is %v", s, !want)
			}
		}
	}
}

func TestIsSummaryOfEveryCount(t *testing.T) {
	for count := -150; count <= 150; count++ {
		for rows := range 102 {
			s := summaryWith(1, rows, 0, 0, 1, 0)
			s.Count = count
			if rows == 0 {
				s.MaxX = 0
			}
			if want := count == rows && rows < 100; checkIsSummary(t, s) != want {
				t.Errorf("IsSummary(%v) is %v", s, !want)
			}
		}
	}
}

func TestIsSummaryOfEveryNumberOfNulls(t *testing.T) {
	for count := range 100 {
		for nulls := -3; nulls <= 103; nulls++ {
			some, none := summaryWith(1, count, nulls, -1, 1, 1), summaryWith(1, count, nulls, 0, 0, 0)
			if want := 0 <= nulls && nulls < count; checkIsSummary(t, some) != want {
				t.Errorf("IsSummary(%v) is %v", some, !want)
			}
			if want := 0 <= nulls && nulls <= count; checkIsSummary(t, none) != want {
				t.Errorf("IsSummary(%v) is %v", none, !want)
			}
		}
	}
}

func TestIsSummaryOfEveryPairOfExtremes(t *testing.T) {
	numbers := []int{math.MinInt, -1 << 32, -1000, -101, -100, -99, -98, -50, -1, 0, 1, 50, 98, 99, 100, 101, 1000, 1 << 32, math.MaxInt}
	for _, least := range numbers {
		for _, greatest := range numbers {
			for _, values := range []int{1, 2, 6, 99} {
				s := summaryWith(0, values, 0, least, greatest, values*least)
				if want := -99 <= least && least <= greatest && greatest <= 99; checkIsSummary(t, s) != want {
					t.Errorf("IsSummary(%v) is %v", s, !want)
				}
			}
			checkIsSummary(t, summaryWith(0, 5, 5, least, greatest, 0))
			checkIsSummary(t, summaryWith(0, 0, 0, least, greatest, 0))
		}
	}
}

func TestIsSummaryOfSumsAtTheirLimits(t *testing.T) {
	extremes := []int{-99, -98, -1, 0, 1, 50, 98, 99}
	for _, least := range extremes {
		for _, greatest := range extremes {
			if least > greatest {
				continue
			}
			for values := 1; values <= 99; values++ {
				low, high := values*least, values*greatest
				for _, sum := range []int{low - 1, low, (low + high) / 2, high, high + 1, low - 1<<32, high + 1<<32, math.MinInt, math.MaxInt, -high - 1, -low + 1} {
					for _, nulls := range []int{0, 1, 99 - values} {
						if values+nulls > 99 {
							continue
						}
						s := summaryWith(20, values+nulls, nulls, least, greatest, sum)
						if want := low <= sum && sum <= high; checkIsSummary(t, s) != want {
							t.Errorf("IsSummary(%v) is %v", s, !want)
						}
					}
				}
			}
		}
	}
}

func TestIsSummaryOfEveryHistogram(t *testing.T) {
	for _, h := range append(validHistograms(), invalidHistograms()...) {
		for _, nulls := range []int{0, 1, 50} {
			checkIsSummary(t, withHist(summaryWith(4, 0, nulls, -5, 5, 0), h))
			checkIsSummary(t, withHist(summaryWith(4, 0, nulls, 0, 0, 0), h))
		}
		empty := summaryWith(4, 0, 0, 0, 0, 0)
		empty.Hist = h
		checkIsSummary(t, empty)
	}
}

func TestValuesIn(t *testing.T) {
	for _, s := range validSummaries() {
		if n := impl.ValuesIn(s); n != s.Count-s.Nulls {
			t.Errorf("ValuesIn(%v) = %d", s, n)
		}
	}
	for _, s := range invalidSummaries() {
		if n := impl.ValuesIn(s); n != 0 {
			t.Errorf("ValuesIn(%v) = %d, want 0", s, n)
		}
	}
}

func checkSummarize(t *testing.T, b impl.Block) {
	t.Helper()
	s := impl.Summarize(b)
	if want := modelSummary(b.ID, b.Rows); !sameSummary(s, want) || !impl.IsSummary(s) {
		t.Errorf("Summarize(%v) = %v, want %v", b, s, want)
	}
}

func TestSummarize(t *testing.T) {
	cases := []struct {
		b    impl.Block
		want impl.Summary
	}{
		{impl.Block{ID: 1, Rows: []impl.Row{{ID: 1, X: 5}, {ID: 2, Y: 1, X: -3}, {ID: 3, Group: 1, Y: 4, X: 10}}}, validSummaryTexts[0].s},
		{impl.Block{ID: 2, Rows: []impl.Row{{ID: 4, Group: 1, Y: 7, Null: true}, {ID: 5, Group: 1, Y: 8, X: 2}}}, validSummaryTexts[1].s},
		// A block without rows, with one row, and with nulls only.
		{impl.Block{ID: 20}, impl.Summary{Block: 20, Hist: filled(12, 0)}},
		{impl.Block{ID: 1, Rows: rowsOf(1, 2)[:0]}, impl.Summary{Block: 1, Hist: filled(12, 0)}},
		{impl.Block{ID: 9, Rows: []impl.Row{{ID: 99, Group: 3, Y: 8, X: -99}}}, impl.Summary{Block: 9, Count: 1, MinX: -99, MaxX: -99, SumX: -99, Hist: histogramWith(countedCell{11, 1})}},
		{impl.Block{ID: 9, Rows: []impl.Row{{ID: 1, Group: 3, X: 99}}}, impl.Summary{Block: 9, Count: 1, MinX: 99, MaxX: 99, SumX: 99, Hist: histogramWith(countedCell{9, 1})}},
		{impl.Block{ID: 9, Rows: rowsOf(1)}, impl.Summary{Block: 9, Count: 1, Hist: histogramWith(countedCell{0, 1})}},
		{impl.Block{ID: 5, Rows: []impl.Row{{ID: 1, Null: true}}}, impl.Summary{Block: 5, Count: 1, Nulls: 1, Hist: histogramWith(countedCell{0, 1})}},
		{impl.Block{ID: 5, Rows: []impl.Row{{ID: 1, Null: true}, {ID: 2, Group: 2, Y: 3, Null: true}, {ID: 7, Null: true}}}, impl.Summary{Block: 5, Count: 3, Nulls: 3, Hist: histogramWith(countedCell{0, 2}, countedCell{7, 1})}},
		// A null is no 0.
		{impl.Block{ID: 5, Rows: []impl.Row{{ID: 1, X: 4}, {ID: 2, Null: true}, {ID: 3, X: 7}}}, impl.Summary{Block: 5, Count: 3, Nulls: 1, MinX: 4, MaxX: 7, SumX: 11, Hist: histogramWith(countedCell{0, 3})}},
		{impl.Block{ID: 5, Rows: []impl.Row{{ID: 1, Null: true}, {ID: 2, X: -4}, {ID: 3, X: -7}}}, impl.Summary{Block: 5, Count: 3, Nulls: 1, MinX: -7, MaxX: -4, SumX: -11, Hist: histogramWith(countedCell{0, 3})}},
		{impl.Block{ID: 5, Rows: []impl.Row{{ID: 1}, {ID: 2, X: 6}}}, impl.Summary{Block: 5, Count: 2, MaxX: 6, SumX: 6, Hist: histogramWith(countedCell{0, 2})}},
		{impl.Block{ID: 5, Rows: []impl.Row{{ID: 1, X: -6}, {ID: 2}}}, impl.Summary{Block: 5, Count: 2, MinX: -6, SumX: -6, Hist: histogramWith(countedCell{0, 2})}},
	}
	for _, c := range cases {
		if s := impl.Summarize(c.b); !sameSummary(s, c.want) || !impl.IsSummary(s) {
			t.Errorf("Summarize(%v) = %v, want %v", c.b, s, c.want)
		}
		checkSummarize(t, c.b)
	}
	for _, c := range validBlockTexts {
		checkSummarize(t, c.b)
	}
}

func TestSummarizeBlocksThatAreNotValid(t *testing.T) {
	want := impl.Summary{Hist: filled(12, 0)}
	for _, b := range append(invalidBlocks(), impl.Block{ID: 20, Rows: rowsOf(1, 2, 3, 4, 5, 6, 7)}, impl.Block{ID: 21, Rows: rowsOf(1)}) {
		if s := impl.Summarize(b); !sameSummary(s, want) || !impl.IsSummary(s) {
			t.Errorf("Summarize(%v) = %v, want the summary of no rows", b, s)
		}
	}
}

func TestSummarizeEveryBlock(t *testing.T) {
	eachRow([]int{1, 99}, func(r impl.Row) { checkSummarize(t, impl.Block{ID: 1 + r.Y, Rows: []impl.Row{r}}) })
	for id := 1; id <= 20; id++ {
		for _, l := range subsetsOf(9) {
			if len(l) <= 6 {
				checkSummarize(t, fullBlock(id, l...))
			}
		}
	}
	values := []impl.Row{{X: -99}, {X: -1}, {X: 0}, {X: 1}, {X: 99}, {Null: true}}
	for i := range 6 * 6 * 6 {
		b := impl.Block{ID: 3}
		for id, at := range []int{i % 6, i / 6 % 6, i / 36} {
			r := values[at]
			r.ID, r.Group, r.Y = id+1, at%4, i%9
			b.Rows = append(b.Rows, r)
		}
		checkSummarize(t, b)
	}
}

// modelMerge returns the merge of summaries, or the zero value and false if there is none.
func modelMerge(a impl.Summary, b impl.Summary) (impl.Summary, bool) {
	if !modelIsSummary(a) || !modelIsSummary(b) || a.Count+b.Count > 99 {
		return impl.Summary{}, false
	}
	s := impl.Summary{Count: a.Count + b.Count, Nulls: a.Nulls + b.Nulls, SumX: a.SumX + b.SumX}
	var extremes []int
	for _, x := range []impl.Summary{a, b} {
		if x.Nulls < x.Count {
			extremes = append(extremes, x.MinX, x.MaxX)
		}
	}
	if len(extremes) > 0 {
		s.MinX, s.MaxX = slices.Min(extremes), slices.Max(extremes)
	}
	for at := range 12 {
		s.Hist = append(s.Hist, a.Hist[at]+b.Hist[at])
	}
	return s, true
}

// checkMerge compares MergeSummaries with the model, in both orders.
func checkMerge(t *testing.T, a impl.Summary, b impl.Summary) bool {
	t.Helper()
	want, wantOk := modelMerge(a, b)
	for range 2 {
		heldA, heldB := copiedSummary(a), copiedSummary(b)
		got, ok := impl.MergeSummaries(a, b)
		if !sameSummary(got, want) || ok != wantOk || ok && !impl.IsSummary(got) {
			t.Errorf("MergeSummaries(%v, %v) = %v, %v, want %v, %v", a, b, got, ok, want, wantOk)
		}
		if !sameSummary(a, heldA) || !sameSummary(b, heldB) {
			t.Errorf("MergeSummaries changes %v and %v to %v and %v", heldA, heldB, a, b)
		}
		a, b = b, a
	}
	return wantOk
}

func TestMergeSummaries(t *testing.T) {
	a, b := validSummaryTexts[0].s, validSummaryTexts[1].s
	want := impl.Summary{Count: 5, Nulls: 1, MinX: -3, MaxX: 10, SumX: 14, Hist: []int{2, 0, 0, 0, 1, 2, 0, 0, 0, 0, 0, 0}}
	if s, ok := impl.MergeSummaries(a, b); !sameSummary(s, want) || !ok {
		t.Errorf("MergeSummaries(%v, %v) = %v, %v, want %v", a, b, s, ok, want)
	}
	nulls := summaryWith(7, 4, 4, 0, 0, 0)
	for _, s := range []impl.Summary{summaryWith(7, 3, 1, 5, 9, 14), summaryWith(7, 3, 0, -9, -5, -20), summaryWith(0, 1, 0, 99, 99, 99)} {
		got, ok := impl.MergeSummaries(nulls, s)
		if got.Block != 0 || got.Nulls != s.Nulls+4 || got.MinX != s.MinX || got.MaxX != s.MaxX || got.SumX != s.SumX || !ok {
			t.Errorf("MergeSummaries(%v, %v) = %v, %v", nulls, s, got, ok)
		}
	}
}

func TestMergeManySummaries(t *testing.T) {
	valid, invalid := validSummaries(), invalidSummaries()
	for _, x := range valid {
		for _, y := range valid {
			checkMerge(t, x, y)
		}
		for _, y := range invalid {
			if checkMerge(t, x, y) {
				t.Errorf("%v and %v are merged", x, y)
			}
		}
	}
	for i, x := range invalid {
		for j := i % 97; j < len(invalid); j += 97 {
			if checkMerge(t, x, invalid[j]) {
				t.Errorf("%v and %v are merged", x, invalid[j])
			}
		}
	}
}

func TestMergeSummariesOfEveryTwoCounts(t *testing.T) {
	for first := range 100 {
		for second := range 100 {
			values := min(first, second, 1)
			a, b := summaryWith(1, first, first-values, 4*values, 4*values, 4*values), summaryWith(2, second, second-values, -4*values, -4*values, -4*values)
			if want := first+second <= 99; checkMerge(t, a, b) != want {
				t.Errorf("the merge of %d and %d rows is %v", first, second, !want)
			}
		}
	}
	a, b := withHist(summaryWith(1, 0, 0, 1, 2, 80), filled(12, 4)), withHist(summaryWith(2, 0, 60, 0, 0, 0), filled(12, 5))
	if !checkMerge(t, a, a) || checkMerge(t, a, b) || checkMerge(t, b, b) {
		t.Errorf("the merges of %v and %v are wrong", a, b)
	}
}

func TestMergeSummariesOfEveryTwoExtremes(t *testing.T) {
	numbers := []int{-99, -98, -2, -1, 0, 1, 2, 98, 99}
	var all []impl.Summary
	for _, least := range numbers {
		for _, greatest := range numbers {
			if least <= greatest {
				all = append(all, summaryWith(1, 3, 0, least, greatest, least+2*greatest), summaryWith(2, 40, 39, least, greatest, least))
			}
		}
	}
	all = append(all, summaryWith(0, 0, 0, 0, 0, 0), summaryWith(3, 5, 5, 0, 0, 0))
	for _, a := range all {
		for _, b := range all {
			checkMerge(t, a, b)
		}
	}
}

func TestMergeSummariesInAnyOrder(t *testing.T) {
	all := validSummaries()
	none := impl.Summarize(impl.Block{})
	for _, a := range all {
		alone := copiedSummary(a)
		alone.Block = 0
		if s, ok := impl.MergeSummaries(a, none); !sameSummary(s, alone) || !ok {
			t.Errorf("MergeSummaries(%v, no rows) = %v, %v", a, s, ok)
		}
		for _, b := range all {
			ab, _ := impl.MergeSummaries(a, b)
			for _, c := range all {
				bc, _ := impl.MergeSummaries(b, c)
				first, firstOk := impl.MergeSummaries(ab, c)
				second, secondOk := impl.MergeSummaries(a, bc)
				if !sameSummary(first, second) || firstOk != secondOk {
					t.Errorf("the merge of %v, %v and %v depends on which are merged first: %v and %v", a, b, c, first, second)
				}
			}
		}
	}
}

// mergeOfBlocks merges the summaries of the blocks in this order.
func mergeOfBlocks(t *testing.T, summaries []impl.Summary, order []int) impl.Summary {
	t.Helper()
	total := impl.Summarize(impl.Block{})
	for _, at := range order {
		var ok bool
		if total, ok = impl.MergeSummaries(total, summaries[at]); !ok {
			t.Fatalf("the summary %v is not merged", summaries[at])
		}
	}
	return total
}

// mergeInPairs merges two neighbours, as they are chosen, until one summary is left.
func mergeInPairs(t *testing.T, summaries []impl.Summary, choose func(int) int) impl.Summary {
	t.Helper()
	left := slices.Clone(summaries)
	for len(left) > 1 {
		at := choose(len(left) - 1)
		s, ok := impl.MergeSummaries(left[at+1], left[at])
		if !ok {
			t.Fatalf("the summaries %v and %v are not merged", left[at], left[at+1])
		}
		left[at] = s
		left = slices.Delete(left, at+1, at+2)
	}
	return left[0]
}

// checkTable compares the summaries of a valid table with the model, and their merge, in several orders, with that of all its rows.
func checkTable(t *testing.T, x impl.Table, random *rand.Rand) {
	t.Helper()
	summaries := impl.SummariesOf(x)
	if len(summaries) != len(x.Blocks) {
		t.Fatalf("SummariesOf(%v) = %v", x, summaries)
	}
	for i, b := range x.Blocks {
		if want := modelSummary(b.ID, b.Rows); !sameSummary(summaries[i], want) {
			t.Fatalf("SummariesOf(%v) has %v at %d, want %v", x, summaries[i], i, want)
		}
	}
	want := modelSummary(0, allRows(x))
	total, ok := impl.TotalSummary(x)
	if !sameSummary(total, want) || !ok || !impl.IsSummary(total) {
		t.Fatalf("TotalSummary(%v) = %v, %v, want %v", x, total, ok, want)
	}
	for range 6 {
		order := random.Perm(len(x.Blocks))
		if s := mergeOfBlocks(t, summaries, order); !sameSummary(s, total) {
			t.Fatalf("the summaries of the blocks of %v give %v in the order %v, want %v", x, s, order, total)
		}
		if len(summaries) > 1 {
			if s := mergeInPairs(t, summaries, random.Intn); !sameSummary(s, total) {
				t.Fatalf("the summaries of the blocks of %v give %v in pairs, want %v", x, s, total)
			}
		}
	}
}

func TestSummaryOfATableIsTheMergeOfThoseOfItsBlocks(t *testing.T) {
	random := rand.New(rand.NewSource(9))
	for _, c := range validTableTexts {
		checkTable(t, c.x, random)
	}
	checkTable(t, greatestTable(), random)
	eachTable(func(x impl.Table) {
		if modelIsValidTable(x) {
			checkTable(t, x, random)
		}
	})
	for range 500 {
		x := impl.Table{Version: random.Intn(100)}
		ids := random.Perm(99)
		for block := 1 + random.Intn(9); block <= 20 && len(x.Blocks) < 6; block += 1 + random.Intn(4) {
			b := impl.Block{ID: block}
			rows := random.Intn(7)
			for _, id := range slices.Sorted(slices.Values(ids[:rows])) {
				r := impl.Row{ID: id + 1, Group: random.Intn(4), Y: random.Intn(9), X: random.Intn(199) - 99}
				if random.Intn(3) == 0 {
					r.X, r.Null = 0, true
				}
				b.Rows = append(b.Rows, r)
			}
			ids = ids[rows:]
			x.Blocks = append(x.Blocks, b)
		}
		checkTable(t, x, random)
	}
}

func TestTotalSummary(t *testing.T) {
	cases := []struct {
		x    impl.Table
		want impl.Summary
	}{
		{impl.NewTable(), impl.Summary{Hist: filled(12, 0)}},
		{tableOf(99), impl.Summary{Hist: filled(12, 0)}},
		{tableOf(3, blockOf(1), blockOf(20)), impl.Summary{Hist: filled(12, 0)}},
		{tableOf(3, blockOf(7, 1, 2), blockOf(8), blockOf(9, 99)), impl.Summary{Count: 3, Hist: histogramWith(countedCell{0, 3})}},
		{validTableTexts[18].x, impl.Summary{Count: 6, Nulls: 1, MinX: -3, MaxX: 10, SumX: 21, Hist: []int{3, 0, 0, 0, 1, 2, 0, 0, 0, 0, 0, 0}}},
		{tableOf(3, impl.Block{ID: 2, Rows: []impl.Row{{ID: 1, Null: true}}}), impl.Summary{Count: 1, Nulls: 1, Hist: histogramWith(countedCell{0, 1})}},
		{tableOf(3, impl.Block{ID: 2, Rows: []impl.Row{{ID: 1, Null: true}}}, impl.Block{ID: 3, Rows: []impl.Row{{ID: 2, X: 9}}}), impl.Summary{Count: 2, Nulls: 1, MinX: 9, MaxX: 9, SumX: 9, Hist: histogramWith(countedCell{0, 2})}},
		{tableOf(3, impl.Block{ID: 2, Rows: []impl.Row{{ID: 1, X: -9}}}, blockOf(3), impl.Block{ID: 4, Rows: []impl.Row{{ID: 2, Null: true}}}), impl.Summary{Count: 2, Nulls: 1, MinX: -9, MaxX: -9, SumX: -9, Hist: histogramWith(countedCell{0, 2})}},
	}
	for _, c := range cases {
		if s, ok := impl.TotalSummary(c.x); !sameSummary(s, c.want) || !ok || !impl.IsSummary(s) {
			t.Errorf("TotalSummary(%v) = %v, %v, want %v", c.x, s, ok, c.want)
		}
	}
	if l := impl.SummariesOf(impl.NewTable()); len(l) != 0 {
		t.Errorf("SummariesOf a table without blocks = %v", l)
	}
}

func TestSummariesOfTablesThatAreNotValid(t *testing.T) {
	check := func(x impl.Table) {
		if l := impl.SummariesOf(x); len(l) != 0 {
			t.Errorf("SummariesOf(%v) = %v, want an empty list", x, l)
		}
		if s, ok := impl.TotalSummary(x); !sameSummary(s, impl.Summary{}) || ok {
			t.Errorf("TotalSummary(%v) = %v, %v, want the zero value and false", x, s, ok)
		}
	}
	for _, x := range invalidTables() {
		check(x)
	}
	eachTable(func(x impl.Table) {
		if !modelIsValidTable(x) {
			check(x)
		}
	})
}

func TestEqualSummaries(t *testing.T) {
	all := append(validSummaries(), invalidSummaries()[:400]...)
	for i, a := range all {
		if !impl.EqualSummaries(a, copiedSummary(a)) {
			t.Errorf("%v is not equal to its copy", a)
		}
		for _, b := range all[:i] {
			if want := sameSummary(a, b); impl.EqualSummaries(a, b) != want || impl.EqualSummaries(b, a) != want {
				t.Errorf("EqualSummaries(%v, %v) is %v", a, b, !want)
			}
		}
	}
}

func TestEqualSummariesOfEveryField(t *testing.T) {
	for _, s := range append(validSummaries(), impl.Summary{}, impl.Summary{Block: -1, Count: 200, Nulls: math.MinInt, MinX: math.MaxInt, MaxX: -7, SumX: 1 << 40, Hist: []int{-1, 5}}) {
		for _, n := range []int{1, -1, 1 << 32, math.MinInt} {
			for field := range 6 {
				other := copiedSummary(s)
				*[]*int{&other.Block, &other.Count, &other.Nulls, &other.MinX, &other.MaxX, &other.SumX}[field] += n
				if impl.EqualSummaries(s, other) || impl.EqualSummaries(other, s) {
					t.Errorf("%v and %v are equal", s, other)
				}
			}
			// The number of the other rows is the same.
			other := copiedSummary(s)
			other.Count, other.Nulls = other.Count+n, other.Nulls+n
			if impl.EqualSummaries(s, other) {
				t.Errorf("%v and %v are equal", s, other)
			}
			for at := range s.Hist {
				other := copiedSummary(s)
				other.Hist[at] += n
				if impl.EqualSummaries(s, other) || impl.EqualSummaries(other, s) {
					t.Errorf("%v and %v are equal", s, other)
				}
			}
		}
		longer := copiedSummary(s)
		longer.Hist = append(longer.Hist, 0)
		if impl.EqualSummaries(s, longer) || impl.EqualSummaries(longer, s) {
			t.Errorf("%v and %v are equal", s, longer)
		}
	}
	if !impl.EqualSummaries(impl.Summary{}, impl.Summary{Hist: []int{}}) || !impl.EqualSummaries(impl.Summary{Hist: filled(3, 0)[:0]}, impl.Summary{}) {
		t.Error("a nil histogram and an empty one are not equal")
	}
}

func TestFormatSummary(t *testing.T) {
	for _, c := range validSummaryTexts {
		if text := impl.FormatSummary(c.s); text != c.text {
			t.Errorf("FormatSummary(%v) = %q, want %q", c.s, text, c.text)
		}
	}
	for _, s := range invalidSummaries() {
		if text := impl.FormatSummary(s); text != "" {
			t.Errorf("FormatSummary(%v) = %q, want the empty string", s, text)
		}
	}
	for _, c := range []struct {
		b    impl.Block
		text string
	}{
		{impl.Block{}, "#0 rows 0 nulls 0"},
		{impl.Block{ID: 21}, "#0 rows 0 nulls 0"},
		{impl.Block{ID: 20}, "#20 rows 0 nulls 0"},
		{blockOf(3, 1, 2, 3), "#3 rows 3 nulls 0 from 0 to 0 sum 0"},
		{fullBlock(12, 1, 5, 20, 49, 50, 51), "#12 rows 6 nulls 3 from -49 to 1 sum -49"},
		{impl.Block{ID: 5, Rows: []impl.Row{{ID: 1, Null: true}}}, "#5 rows 1 nulls 1"},
	} {
		if text := impl.FormatSummary(impl.Summarize(c.b)); text != c.text {
			t.Errorf("the summary of %v has the text %q, want %q", c.b, text, c.text)
		}
	}
	total, _ := impl.TotalSummary(greatestTable())
	if text := impl.FormatSummary(total); text != "#0 rows 36 nulls 7 from 14 to 49 sum 924" {
		t.Errorf("the summary of the greatest table has the text %q", text)
	}
}

func TestSummariesAreNotModifiedOrShared(t *testing.T) {
	all := append(validSummaries(), invalidSummaries()[:300]...)
	for i, a := range all {
		b := all[i*7%len(all)]
		var arrayA, arrayB []int
		a.Hist, arrayA = spaciousList(a.Hist)
		b.Hist, arrayB = spaciousList(b.Hist)
		heldA, heldB := slices.Clone(arrayA), slices.Clone(arrayB)
		impl.IsSummary(a)
		impl.ValuesIn(a)
		impl.EqualSummaries(a, b)
		impl.FormatSummary(a)
		none := impl.Summarize(impl.Block{})
		for _, pair := range [][2]impl.Summary{{a, b}, {b, a}, {a, a}, {a, none}, {none, a}} {
			first, _ := impl.MergeSummaries(pair[0], pair[1])
			second, _ := impl.MergeSummaries(pair[0], pair[1])
			held := slices.Clone(second.Hist)
			overwriteList(first.Hist)
			if !slices.Equal(second.Hist, held) || !slices.Equal(none.Hist, filled(12, 0)) {
				t.Errorf("the merge of %v and %v shares memory", pair[0], pair[1])
			}
		}
		if !slices.Equal(arrayA, heldA) || !slices.Equal(arrayB, heldB) {
			t.Errorf("%v became %v, or %v became %v", heldA, arrayA, heldB, arrayB)
		}
		merged, _ := impl.MergeSummaries(a, none)
		held := slices.Clone(merged.Hist)
		overwriteList(arrayA)
		if !slices.Equal(merged.Hist, held) {
			t.Errorf("the merge of %v and no rows changes with the argument", a)
		}
	}
}

func TestSummariesOfRowsShareNoMemory(t *testing.T) {
	for _, x := range append([]impl.Table{validTableTexts[18].x, validTableTexts[19].x, greatestTable(), tableOf(3, blockOf(1), blockOf(2))}, invalidTables()...) {
		checkOwnTables(t, "a summary", x, func(x impl.Table) impl.Table {
			impl.TotalSummary(x)
			impl.SummariesOf(x)
			for _, b := range x.Blocks {
				impl.Summarize(b)
			}
			return impl.Table{}
		})
		summaries, again := impl.SummariesOf(x), impl.SummariesOf(x)
		for i := range summaries {
			overwriteList(summaries[i].Hist)
			for j := i + 1; j < len(summaries); j++ {
				if !sameSummary(summaries[j], again[j]) {
					t.Errorf("the summaries %d and %d of %v share memory", i, j, x)
				}
			}
		}
		for _, b := range x.Blocks {
			s, held := impl.Summarize(b), impl.Summarize(b)
			overwriteList(s.Hist)
			if s := impl.Summarize(b); !sameSummary(s, held) {
				t.Errorf("Summarize(%v) a second time = %v", b, s)
			}
		}
		total, ok := impl.TotalSummary(x)
		overwriteList(total.Hist)
		if total, _ := impl.TotalSummary(x); ok && !sameSummary(total, modelSummary(0, allRows(x))) {
			t.Errorf("TotalSummary(%v) a second time = %v", x, total)
		}
	}
}
