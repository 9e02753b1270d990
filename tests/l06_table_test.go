package tests

import (
	"math"
	"regexp"
	"slices"
	"strconv"
	"strings"
	"testing"

	"loop.example/g01927/impl"
)

// Promise 2, tables: they can be parsed from their string format; no other strings are accepted.

func tableOf(version int, blocks ...impl.Block) impl.Table {
	return impl.Table{Version: version, Blocks: blocks}
}

// fullTable returns a table in which the blocks 1, 2, .. have the rows with these IDs.
func fullTable(version int, ids ...[]int) impl.Table {
	x := impl.Table{Version: version}
	for i, l := range ids {
		x.Blocks = append(x.Blocks, fullBlock(i+1, l...))
	}
	return x
}

// sameTable compares tables without EqualTables; a nil slice and an empty one are the same.
func sameTable(a impl.Table, b impl.Table) bool {
	return a.Version == b.Version && slices.EqualFunc(a.Blocks, b.Blocks, sameBlock)
}

func copiedTable(x impl.Table) impl.Table {
	x.Blocks = slices.Clone(x.Blocks)
	for i := range x.Blocks {
		x.Blocks[i].Rows = slices.Clone(x.Blocks[i].Rows)
	}
	return x
}

// greatestTable returns a table with as many blocks and rows as a valid one may have.
func greatestTable() impl.Table {
	x := impl.Table{Version: 99}
	for i := range 6 {
		b := impl.Block{ID: 15 + i}
		for j := range 6 {
			b.Rows = append(b.Rows, fullRow(69-i+6*j))
		}
		x.Blocks = append(x.Blocks, b)
	}
	return x
}

// validTableTexts lists tables at their limits and between them, with the text of each.
var validTableTexts = []struct {
	x    impl.Table
	text string
}{
	{impl.Table{}, "v0"},
	{impl.Table{Blocks: []impl.Block{}}, "v0"},
	{impl.Table{Version: 5, Blocks: []impl.Block{blockOf(1), blockOf(1)}[:0]}, "v5"},
	{tableOf(1), "v1"},
	{tableOf(9), "v9"},
	{tableOf(10), "v10"},
	{tableOf(98), "v98"},
	{tableOf(99), "v99"},
	{tableOf(0, blockOf(1)), "v0;#1"},
	{tableOf(99, impl.Block{ID: 20, Rows: []impl.Row{}}), "v99;#20"},
	{tableOf(7, blockOf(1), blockOf(20)), "v7;#1;#20"},
	{tableOf(7, blockOf(9), blockOf(10)), "v7;#9;#10"},
	{tableOf(3, blockOf(1), blockOf(2), blockOf(3), blockOf(4), blockOf(5), blockOf(6)), "v3;#1;#2;#3;#4;#5;#6"},
	{tableOf(3, blockOf(2, 1)), "v3;#2 1:0,0,0"},
	{tableOf(3, blockOf(2, 99), blockOf(3, 1)), "v3;#2 99:0,0,0;#3 1:0,0,0"},
	{tableOf(3, blockOf(2), blockOf(3, 1), blockOf(4)), "v3;#2;#3 1:0,0,0;#4"},
	{tableOf(3, blockOf(2, 1, 3, 5), blockOf(4, 2, 4, 6)), "v3;#2 1:0,0,0 3:0,0,0 5:0,0,0;#4 2:0,0,0 4:0,0,0 6:0,0,0"},
	{tableOf(12, fullBlock(5, 94, 95), fullBlock(11), fullBlock(12, 1, 20)), "v12;#5 94:2,4,44 95:3,5,null;#11;#12 1:1,1,-49 20:0,2,null"},
	{tableOf(3,
		impl.Block{ID: 1, Rows: []impl.Row{{ID: 1, X: 5}, {ID: 2, Y: 1, X: -3}, {ID: 3, Group: 1, Y: 4, X: 10}}},
		impl.Block{ID: 2, Rows: []impl.Row{{ID: 4, Group: 1, Y: 7, Null: true}, {ID: 5, Group: 1, Y: 8, X: 2}}},
		impl.Block{ID: 3, Rows: []impl.Row{{ID: 6, Y: 2, X: 7}}}),
		"v3;#1 1:0,0,5 2:0,1,-3 3:1,4,10;#2 4:1,7,null 5:1,8,2;#3 6:0,2,7"},
	{fullTable(1, []int{1, 2, 3, 4, 5, 6}, []int{7, 8, 9, 10, 11, 12}),
		"v1;#1 1:1,1,-49 2:2,2,-48 3:3,3,-47 4:0,4,-46 5:1,5,null 6:2,6,-44;#2 7:3,7,-43 8:0,8,-42 9:1,0,-41 10:2,1,null 11:3,2,-39 12:0,3,-38"},
}

// invalidTables returns tables of which the version, the number of blocks, their order, one of them or the IDs of the rows are not valid.
func invalidTables() []impl.Table {
	var all []impl.Table
	for _, version := range []int{-1, -2, -99, 100, 101, 1<<32 + 1, math.MaxInt, math.MinInt} {
		all = append(all, tableOf(version), tableOf(version, blockOf(1)), fullTable(version, []int{1}, []int{2, 3}))
	}
	for _, ids := range [][]int{
		{1, 2, 3, 4, 5, 6, 7}, {1, 2, 3, 4, 5, 6, 7, 8}, {14, 15, 16, 17, 18, 19, 20},
		{1, 1}, {20, 20}, {1, 1, 2}, {1, 2, 2}, {1, 2, 3, 4, 5, 5}, {1, 2, 3, 4, 5, 6, 6},
		{2, 1}, {20, 1}, {10, 9}, {1, 3, 2}, {2, 1, 3}, {6, 5, 4, 3, 2, 1}, {1, 2, 1},
		{0}, {0, 1}, {1, 0}, {-1, 1}, {21}, {20, 21}, {math.MinInt, 1}, {1, math.MaxInt},
	} {
		var empty, full []impl.Block
		for i, id := range ids {
			empty = append(empty, blockOf(id))
			full = append(full, fullBlock(id, i+1, i+50))
		}
		all = append(all, tableOf(1, empty...), tableOf(2, full...))
	}
	for _, ids := range [][][]int{
		{{1}, {1}}, {{99}, {99}}, {{1}, {}, {1}}, {{1, 2}, {2, 3}}, {{1, 2}, {1, 3}}, {{1, 3}, {2, 3}}, {{2}, {1, 2, 3}}, {{1}, {2}, {3}, {4}, {5}, {1}}, {{}, {}, {}, {}, {9}, {9}},
		{{1, 2, 3, 4, 5, 6}, {1, 2, 3, 4, 5, 6}}, {{1, 2, 3, 4, 5, 6}, {6, 7, 8, 9, 10, 11}}, {{1}, {1}, {1}}, {{1, 50, 99}, {2, 50, 98}},
		{{1, 1}}, {{1, 1}, {2}}, {{2}, {1, 1}}, {{1, 2, 2}}, {{}, {5, 5}},
	} {
		all = append(all, fullTable(3, ids...))
	}
	// The rows with the same ID differ in all other fields.
	all = append(all, tableOf(1, impl.Block{ID: 1, Rows: []impl.Row{{ID: 4, Group: 1, Y: 1, X: 1}}}, impl.Block{ID: 2, Rows: []impl.Row{{ID: 4, Group: 2, Y: 2, Null: true}}}))
	for _, b := range invalidBlocks() {
		all = append(all, tableOf(0, b))
		// Only the rows can be at fault now, if anything is.
		if b.ID = 10; !impl.IsValidBlock(b) {
			all = append(all, tableOf(1, b, blockOf(20)), tableOf(1, blockOf(1), b), tableOf(1, blockOf(1), b, blockOf(20)))
		}
	}
	return all
}

// eachTable calls f with all tables of at most 3 blocks, with every ID from 0 to 3, whose rows have any of these lists of IDs.
func eachTable(f func(impl.Table)) {
	lists := [][]int{{}, {1}, {2}, {1, 2}, {3}, {2, 2}}
	tables := []impl.Table{{Version: 5}}
	for range 4 {
		var longer []impl.Table
		for _, x := range tables {
			f(x)
			for id := range 4 {
				for _, l := range lists {
					longer = append(longer, tableOf(5, append(slices.Clone(x.Blocks), fullBlock(id, l...))...))
				}
			}
		}
		tables = longer
	}
}

// modelIsValidTable decides by the whole lists of the IDs of the blocks and of the rows.
func modelIsValidTable(x impl.Table) bool {
	var blockIDs, rowIDs []int
	for _, b := range x.Blocks {
		if !impl.IsValidBlock(b) {
			return false
		}
		blockIDs = append(blockIDs, b.ID)
		for _, r := range b.Rows {
			rowIDs = append(rowIDs, r.ID)
		}
	}
	ascending := slices.IsSorted(blockIDs) && len(slices.Compact(blockIDs)) == len(x.Blocks)
	rows := len(rowIDs)
	slices.Sort(rowIDs)
	return x.Version >= 0 && x.Version < 100 && len(x.Blocks) < 7 && ascending && len(slices.Compact(rowIDs)) == rows
}

func TestTableLimits(t *testing.T) {
	if impl.MaxBlocks != 6 || impl.MaxVersion != 99 {
		t.Errorf("the limits are %d and %d", impl.MaxBlocks, impl.MaxVersion)
	}
}

func TestNewTable(t *testing.T) {
	x := impl.NewTable()
	if x.Version != 0 || len(x.Blocks) != 0 || !impl.IsValidTable(x) || impl.CountRows(x) != 0 || impl.FormatTable(x) != "v0" {
		t.Errorf("NewTable() = %v", x)
	}
	if !impl.EqualTables(x, impl.Table{}) || impl.FindBlock(x, 0) != -1 || impl.FindBlock(x, 1) != -1 || impl.BlockOfRow(x, 0) != -1 || impl.BlockOfRow(x, 1) != -1 {
		t.Errorf("NewTable() = %v has a block or is not equal to the zero value", x)
	}
}

func TestIsValidTable(t *testing.T) {
	for _, c := range validTableTexts {
		if !impl.IsValidTable(c.x) {
			t.Errorf("IsValidTable(%v) is false", c.x)
		}
	}
	if x := greatestTable(); !impl.IsValidTable(x) {
		t.Errorf("IsValidTable(%v) is false", x)
	}
	for _, x := range invalidTables() {
		if impl.IsValidTable(x) {
			t.Errorf("IsValidTable(%v) is true", x)
		}
	}
}

func TestIsValidTableOfEveryVersion(t *testing.T) {
	for version := -300; version <= 300; version++ {
		for _, x := range []impl.Table{tableOf(version), tableOf(version, blockOf(1)), fullTable(version, []int{1, 3}, []int{2}, []int{})} {
			if want := 0 <= version && version <= 99; impl.IsValidTable(x) != want {
				t.Errorf("IsValidTable(%v) is %v", x, !want)
			}
		}
	}
}

func TestIsValidTableOfEveryNumberOfBlocks(t *testing.T) {
	for n := 0; n <= 20; n++ {
		empty, full := tableOf(1), tableOf(1)
		for id := 1; id <= n; id++ {
			empty.Blocks = append(empty.Blocks, blockOf(id))
			full.Blocks = append(full.Blocks, fullBlock(id, id, 99-id))
		}
		if want := n <= 6; impl.IsValidTable(empty) != want || impl.IsValidTable(full) != want {
			t.Errorf("IsValidTable of %d blocks is %v", n, !want)
		}
	}
}

func TestIsValidTableOfEveryPairOfBlocks(t *testing.T) {
	for first := -1; first <= 22; first++ {
		for second := -1; second <= 22; second++ {
			want := 1 <= first && first < second && second <= 20
			if x := tableOf(1, blockOf(first, 1), blockOf(second, 2)); impl.IsValidTable(x) != want {
				t.Errorf("IsValidTable(%v) is %v", x, !want)
			}
		}
	}
}

// A row is moved to every place of a table that is full, where its ID then occurs twice.
func TestIsValidTableOfEveryRowTwice(t *testing.T) {
	for i := range 36 {
		for j := range 36 {
			x := greatestTable()
			r := x.Blocks[i/6].Rows[i%6]
			x.Blocks[j/6].Rows[j%6] = r
			slices.SortFunc(x.Blocks[j/6].Rows, func(a impl.Row, b impl.Row) int { return a.ID - b.ID })
			if want := i == j; impl.IsValidTable(x) != want {
				t.Errorf("IsValidTable(%v) with row %d is %v", x, r.ID, !want)
			}
		}
	}
}

func TestIsValidTableOfEverySmallTable(t *testing.T) {
	valid := 0
	eachTable(func(x impl.Table) {
		want := modelIsValidTable(x)
		if impl.IsValidTable(x) != want {
			t.Errorf("IsValidTable(%v) is %v", x, !want)
		}
		if want {
			valid++
		}
	})
	// Each of the rows 1, 2 and 3 lies in one of n blocks or in none, but row 3 in none with another: 5 tables of one block, 17 of two and 43 of three, with IDs from 1 to 3.
	if valid != 1+3*5+3*17+43 {
		t.Errorf("%d tables are valid", valid)
	}
}

func TestFindBlock(t *testing.T) {
	x := tableOf(3, blockOf(2, 1), blockOf(5), blockOf(9, 3, 4), blockOf(20))
	for id := -100; id <= 100; id++ {
		want := -1
		switch id {
		case 2:
			want = 0
		case 5:
			want = 1
		case 9:
			want = 2
		case 20:
			want = 3
		}
		if at := impl.FindBlock(x, id); at != want {
			t.Errorf("FindBlock(%v, %d) = %d, want %d", x, id, at, want)
		}
	}
}

func TestFindBlockInAnyTable(t *testing.T) {
	cases := []struct {
		x    impl.Table
		id   int
		want int
	}{
		{impl.Table{}, 0, -1},
		{tableOf(-1), 1, -1},
		{tableOf(-1, blockOf(4)), 4, 0},
		{tableOf(100, blockOf(4), blockOf(5)), 5, 1},
		{tableOf(0, blockOf(4), blockOf(4)), 4, 0},
		{tableOf(0, blockOf(3), blockOf(4), blockOf(4)), 4, 1},
		{tableOf(0, blockOf(4), blockOf(3), blockOf(4)), 4, 0},
		{tableOf(0, blockOf(9), blockOf(5), blockOf(1)), 1, 2},
		{tableOf(0, blockOf(9), blockOf(5), blockOf(1)), 5, 1},
		{tableOf(0, blockOf(9), blockOf(5), blockOf(1)), 9, 0},
		{tableOf(0, blockOf(9), blockOf(5), blockOf(1)), 6, -1},
		{tableOf(0, blockOf(0)), 0, 0},
		{tableOf(0, blockOf(21), blockOf(-7)), -7, 1},
		{tableOf(0, blockOf(1), blockOf(math.MaxInt)), math.MaxInt, 1},
		{tableOf(0, blockOf(1), blockOf(math.MinInt)), math.MinInt, 1},
		{tableOf(0, blockOf(1)), 1<<32 + 1, -1},
		{tableOf(0, blockOf(3, 5, 5), blockOf(4, 5)), 4, 1},
		{tableOf(0, blockOf(3, 4)), 4, -1},
		{tableOf(0, blockOf(1), blockOf(2), blockOf(3), blockOf(4), blockOf(5), blockOf(6), blockOf(7), blockOf(8)), 8, 7},
		{impl.Table{Blocks: []impl.Block{blockOf(1), blockOf(2)}[:1]}, 2, -1},
	}
	for _, c := range cases {
		if at := impl.FindBlock(c.x, c.id); at != c.want {
			t.Errorf("FindBlock(%v, %d) = %d, want %d", c.x, c.id, at, c.want)
		}
	}
}

func TestBlockOfRow(t *testing.T) {
	x := greatestTable()
	for id := -200; id <= 200; id++ {
		want := -1
		for i, b := range x.Blocks {
			for _, r := range b.Rows {
				if r.ID == id {
					want = i
				}
			}
		}
		if at := impl.BlockOfRow(x, id); at != want {
			t.Errorf("BlockOfRow(%v, %d) = %d, want %d", x, id, at, want)
		}
	}
}

func TestBlockOfRowInAnyTable(t *testing.T) {
	cases := []struct {
		x    impl.Table
		id   int
		want int
	}{
		{impl.Table{}, 0, -1},
		{tableOf(1, blockOf(1), blockOf(2)), 1, -1},
		{tableOf(-1, blockOf(1, 4)), 4, 0},
		{tableOf(100, blockOf(1), blockOf(2, 4)), 4, 1},
		{tableOf(0, blockOf(1, 4), blockOf(2, 4)), 4, 0},
		{tableOf(0, blockOf(1, 3), blockOf(2, 4), blockOf(3, 4)), 4, 1},
		{tableOf(0, blockOf(1, 4), blockOf(2), blockOf(3, 4)), 4, 0},
		{tableOf(0, blockOf(2, 4), blockOf(1, 4)), 4, 0},
		{tableOf(0, blockOf(9, 1), blockOf(9, 1, 2)), 2, 1},
		{tableOf(0, blockOf(1, 4, 4)), 4, 0},
		{tableOf(0, blockOf(1, 3), blockOf(2, 4, 4), blockOf(3, 4)), 4, 1},
		{tableOf(0, blockOf(1, 9, 5, 1), blockOf(2, 8, 1)), 1, 0},
		{tableOf(0, blockOf(1, 9, 5, 1), blockOf(2, 8, 1)), 8, 1},
		{tableOf(0, blockOf(1, 9, 5, 1), blockOf(2, 8, 1)), 7, -1},
		{tableOf(0, blockOf(1, 1), blockOf(2, 0)), 0, 1},
		{tableOf(0, blockOf(0, 100), blockOf(-1, -7)), -7, 1},
		{tableOf(0, blockOf(1), blockOf(2, math.MaxInt)), math.MaxInt, 1},
		{tableOf(0, blockOf(1), blockOf(2, math.MinInt)), math.MinInt, 1},
		{tableOf(0, blockOf(1, 1)), 1<<32 + 1, -1},
		{tableOf(0, blockOf(4, 1)), 4, -1},
		{tableOf(0, blockOf(1), blockOf(2), blockOf(3), blockOf(4), blockOf(5), blockOf(6), blockOf(7), blockOf(8, 1, 2, 3, 4, 5, 6, 7, 8)), 8, 7},
		{impl.Table{Blocks: []impl.Block{{ID: 1, Rows: rowsOf(1, 2)[:1]}, blockOf(2, 2)}}, 2, 1},
		{impl.Table{Blocks: []impl.Block{blockOf(1, 1), blockOf(2, 2)}[:1]}, 2, -1},
	}
	for _, c := range cases {
		if at := impl.BlockOfRow(c.x, c.id); at != c.want {
			t.Errorf("BlockOfRow(%v, %d) = %d, want %d", c.x, c.id, at, c.want)
		}
	}
}

func TestFindAndCountInEverySmallTable(t *testing.T) {
	eachTable(func(x impl.Table) {
		rows := 0
		for _, b := range x.Blocks {
			rows += len(b.Rows)
		}
		if n := impl.CountRows(x); n != rows {
			t.Errorf("CountRows(%v) = %d, want %d", x, n, rows)
		}
		for id := -1; id <= 4; id++ {
			block := slices.IndexFunc(x.Blocks, func(b impl.Block) bool { return b.ID == id })
			row := slices.IndexFunc(x.Blocks, func(b impl.Block) bool { return slices.Contains(b.Rows, fullRow(id)) })
			if at := impl.FindBlock(x, id); at != block {
				t.Errorf("FindBlock(%v, %d) = %d, want %d", x, id, at, block)
			}
			if at := impl.BlockOfRow(x, id); at != row {
				t.Errorf("BlockOfRow(%v, %d) = %d, want %d", x, id, at, row)
			}
		}
	})
}

func TestCountRows(t *testing.T) {
	cases := []struct {
		x    impl.Table
		want int
	}{
		{impl.Table{}, 0},
		{tableOf(99), 0},
		{tableOf(1, blockOf(1), blockOf(2)), 0},
		{tableOf(1, blockOf(1, 5)), 1},
		{fullTable(3, []int{1, 2, 3}, []int{4, 5}, []int{6}), 6},
		{fullTable(3, []int{}, []int{1, 2, 3, 4, 5, 6}, []int{}), 6},
		{greatestTable(), 36},
		{tableOf(-1, blockOf(1, 5)), 1},
		{tableOf(0, blockOf(1, 5), blockOf(1, 5)), 2},
		{tableOf(0, blockOf(2, 5, 5, 5), blockOf(1, 0)), 4},
		{tableOf(0, blockOf(0, 1, 2, 3, 4, 5, 6, 7, 8), blockOf(21, -1)), 9},
		{tableOf(0, impl.Block{ID: 1, Rows: rowsOf(1, 2, 3)[:2]}), 2},
		{impl.Table{Blocks: []impl.Block{blockOf(1, 1), blockOf(2, 2)}[:1]}, 1},
	}
	for _, c := range cases {
		if n := impl.CountRows(c.x); n != c.want {
			t.Errorf("CountRows(%v) = %d, want %d", c.x, n, c.want)
		}
	}
}

func TestEqualTables(t *testing.T) {
	base := fullTable(3, []int{1, 5}, []int{2, 9}, []int{})
	same := [][2]impl.Table{
		{base, fullTable(3, []int{1, 5}, []int{2, 9}, []int{})}, {{}, {}}, {{}, {Blocks: []impl.Block{}}},
		{{}, {Blocks: base.Blocks[:0]}}, {tableOf(1, blockOf(1)), tableOf(1, impl.Block{ID: 1, Rows: []impl.Row{}})},
		{base, {Version: 3, Blocks: append(slices.Clone(base.Blocks), blockOf(9))[:3]}},
	}
	for _, c := range same {
		if !impl.EqualTables(c[0], c[1]) || !impl.EqualTables(c[1], c[0]) {
			t.Errorf("EqualTables(%v, %v) is false", c[0], c[1])
		}
	}
	others := []impl.Table{
		{}, {Version: 3}, {Blocks: base.Blocks}, {Version: 4, Blocks: base.Blocks}, {Version: -3, Blocks: base.Blocks}, {Version: 1<<32 + 3, Blocks: base.Blocks},
		fullTable(3, []int{1, 5}, []int{2, 9}), fullTable(3, []int{1, 5}, []int{2, 9}, []int{}, []int{}), fullTable(3, []int{1, 5}, []int{2, 9}, []int{3}), fullTable(3, []int{2, 9}, []int{1, 5}, []int{}),
		fullTable(3, []int{1, 5}, []int{}, []int{2, 9}), fullTable(3, []int{1, 5, 2}, []int{9}, []int{}), fullTable(3, []int{1}, []int{2, 5, 9}, []int{}), fullTable(3, []int{5, 1}, []int{2, 9}, []int{}),
		tableOf(3, base.Blocks[1], base.Blocks[0], base.Blocks[2]), tableOf(3, base.Blocks[1:]...), tableOf(3, base.Blocks[0], base.Blocks[1], blockOf(4)),
	}
	for i, b := range base.Blocks {
		for j := range b.Rows {
			for _, change := range []func(*impl.Row){
				func(r *impl.Row) { r.ID++ }, func(r *impl.Row) { r.Group++ }, func(r *impl.Row) { r.Y++ }, func(r *impl.Row) { r.X++ }, func(r *impl.Row) { r.Null = !r.Null },
			} {
				x := copiedTable(base)
				change(&x.Blocks[i].Rows[j])
				others = append(others, x)
			}
		}
	}
	for _, x := range others {
		if impl.EqualTables(base, x) || impl.EqualTables(x, base) {
			t.Errorf("EqualTables(%v, %v) is true", base, x)
		}
	}
}

func TestEqualTablesOfInvalidOnes(t *testing.T) {
	all := invalidTables()
	for _, c := range validTableTexts {
		all = append(all, c.x)
	}
	for i, a := range all {
		if !impl.EqualTables(a, copiedTable(a)) {
			t.Errorf("EqualTables of %v and its copy is false", a)
		}
		for _, b := range all[i:] {
			want := sameTable(a, b)
			if impl.EqualTables(a, b) != want || impl.EqualTables(b, a) != want {
				t.Errorf("EqualTables(%v, %v) is %v", a, b, !want)
			}
		}
	}
}

func TestFormatTable(t *testing.T) {
	for _, c := range validTableTexts {
		if s := impl.FormatTable(c.x); s != c.text {
			t.Errorf("FormatTable(%v) = %q, want %q", c.x, s, c.text)
		}
	}
	for _, x := range invalidTables() {
		if s := impl.FormatTable(x); s != "" {
			t.Errorf("FormatTable(%v) = %q, want an empty string", x, s)
		}
	}
}

func TestParseTable(t *testing.T) {
	for _, c := range validTableTexts {
		if x, ok := impl.ParseTable(c.text); !sameTable(x, c.x) || !ok {
			t.Errorf("ParseTable(%q) = %v, %v, want %v", c.text, x, ok, c.x)
		}
	}
}

// checkFormatTable checks the text of a table against the texts of its blocks, and that it is parsed.
func checkFormatTable(t *testing.T, x impl.Table) {
	t.Helper()
	want := ""
	if modelIsValidTable(x) {
		want = "v" + strconv.Itoa(x.Version)
		for _, b := range x.Blocks {
			want += ";" + impl.FormatBlock(b)
		}
	}
	s := impl.FormatTable(x)
	if s != want {
		t.Fatalf("FormatTable(%v) = %q, want %q", x, s, want)
	}
	if s == "" {
		return
	}
	if got, ok := impl.ParseTable(s); !sameTable(got, x) || !ok {
		t.Fatalf("ParseTable(%q) = %v, %v, want %v", s, got, ok, x)
	}
}

func TestEveryTableIsParsedFromItsFormat(t *testing.T) {
	eachTable(func(x impl.Table) { checkFormatTable(t, x) })
	checkFormatTable(t, greatestTable())
	for version := -10; version <= 120; version++ {
		for _, ids := range subsetsOf(8) {
			x := impl.Table{Version: version}
			for i, id := range ids {
				x.Blocks = append(x.Blocks, fullBlock(id+id*version%3, id, 20+10*i, 99-id))
			}
			checkFormatTable(t, x)
		}
	}
}

var tableFormat = regexp.MustCompile(`^v([0-9]|[1-9][0-9])((?:;[^;]+){0,6})$`)

// readTable reads a table by its pattern and those of its blocks alone.
func readTable(s string) (impl.Table, bool) {
	m := tableFormat.FindStringSubmatch(s)
	if m == nil {
		return impl.Table{}, false
	}
	var x impl.Table
	x.Version, _ = strconv.Atoi(m[1])
	last := 0
	var seen [100]bool
	for _, text := range strings.Split(m[2], ";")[1:] {
		b, ok := readBlock(text)
		if !ok || b.ID <= last {
			return impl.Table{}, false
		}
		for _, r := range b.Rows {
			if seen[r.ID] {
				return impl.Table{}, false
			}
			seen[r.ID] = true
		}
		last = b.ID
		x.Blocks = append(x.Blocks, b)
	}
	return x, true
}

func checkParseTable(t *testing.T, s string) bool {
	t.Helper()
	return checkParse(t, s, sameTable, readTable, impl.ParseTable, impl.FormatTable)
}

func TestParseTableOfEveryShortString(t *testing.T) {
	accepted := 0
	for _, s := range shortStrings("v0129;#- ", 5) {
		if checkParseTable(t, s) {
			accepted++
		}
	}
	// The versions of one digit and the 3*4 of two, without blocks, and those of one digit with the block 1, 2 or 9.
	if accepted != 4+3*4+4*3 {
		t.Errorf("%d strings are accepted", accepted)
	}
}

func TestParseTableOfEveryVersion(t *testing.T) {
	for version := -300; version <= 300; version++ {
		for _, rest := range []string{"", ";#1", ";#1 1:0,0,5;#2 2:0,0,null"} {
			s := "v" + strconv.Itoa(version) + rest
			if checkParseTable(t, s) != (0 <= version && version <= 99) {
				t.Errorf("ParseTable(%q) is wrong", s)
			}
		}
	}
}

func TestParseTableOfEverySequenceOfParts(t *testing.T) {
	parts := []string{"v0", "v99", "", "#1", "#2 1:0,0,5", "#3 2:0,0,null 10:1,1,1", "#10 1:0,0,6", "#20 2:0,0,0", "1:0,0,5", "#0"}
	eachSequence(parts, ";", 4, func(s string) { checkParseTable(t, s) })
}

func TestParseTableOfEveryNumberOfBlocks(t *testing.T) {
	empty, full := "v1", "v1"
	for id := 1; id <= 20; id++ {
		empty += ";#" + strconv.Itoa(id)
		full += ";" + impl.FormatBlock(fullBlock(id, id, 99-id))
		for _, s := range []string{empty, full} {
			if checkParseTable(t, s) != (id <= 6) {
				t.Errorf("ParseTable of %d blocks is wrong", id)
			}
			if checkParseTable(t, s+";") || checkParseTable(t, s+";x") || checkParseTable(t, s+" ") {
				t.Errorf("ParseTable of %d blocks and more is true", id)
			}
		}
	}
}

func TestParseTableOfARowTwice(t *testing.T) {
	for i := range 6 {
		for j := range 6 {
			s := "v1"
			for at := range 6 {
				s += ";#" + strconv.Itoa(at+1)
				if at == i || at == j {
					s += " 50:0,0," + strconv.Itoa(at)
				}
			}
			if checkParseTable(t, s) != (i == j) {
				t.Errorf("ParseTable(%q) is wrong", s)
			}
		}
	}
}

func TestParseTableOfEveryChangedByte(t *testing.T) {
	for _, c := range validTableTexts {
		eachChangedText(c.text, func(s string) { checkParseTable(t, s) })
	}
}

func TestParseTableRefuses(t *testing.T) {
	six := ";#1;#2;#3;#4;#5;#6"
	for _, s := range []string{
		"", " ", "v", "V0", "0", "x1", "vv1", "v 1", " v1", "v1 ", "v1\n", "\nv1", "v1\x00", "\x00v1", "ｖ1", "v1v", "v1v2", "vx", "v1x",
		"v-1", "v-0", "v+1", "v00", "v01", "v007", "v100", "v101", "v999", "v1.0", "v1/1", "v1e1", "v0x1", "v1_0", "v4294967297", "v18446744073709551617", "v" + strings.Repeat("1", 1000), "v" + strings.Repeat("0", 1000),
		"v1;", "v1;;", "v1;;#1", "v1;#1;", "v1;#1;;#2", ";v1", ";", ";#1", "#1", "#1;v1", "v1;v1", "v1;#1;v1", "v1#1", "v1 #1", "v1,#1", "v1; #1", "v1;#1 ", "v1 ;#1", "v1;#1; #2", "v1;#1 ;#2", "v1;#1\n", "v1\n#1", "v1;1", "v1;x", "v1;#", "v1;#x",
		"v1;#0", "v1;#21", "v1;#-1", "v1;#01", "v1;#1;#1", "v1;#2;#1", "v1;#20;#1", "v1;#10;#9", "v1;#1;#3;#2", "v1;#1;#2;#2", "v1;#1;#2;#1", "v1;#1 #2", "v1;#1#2", "v1;#1,#2",
		"v1" + six + ";#7", "v1" + six + ";#6", "v1" + six + ";", "v1" + six + ";x", "v1" + six + ";#7;#8", "v100" + six, "v-1" + six, "v" + six,
		"v1;#1 1:0,0,5;#2 1:0,0,5", "v1;#1 1:0,0,5;#2 1:1,1,null", "v1;#1 1:0,0,5 2:0,0,5;#2 2:0,0,5", "v1;#1 9:0,0,5;#2;#3 9:0,0,5", "v1;#1 1:0,0,5 1:0,0,5", "v1;#1 1:0,0,5 1:0,0,6", "v1;#1;#2 3:0,0,5 3:0,0,5", "v1;#1 2:0,0,5 1:0,0,5",
		"v1;#1 0:0,0,5", "v1;#1 100:0,0,5", "v1;#1 1:4,0,5", "v1;#1 1:0,9,5", "v1;#1 1:0,0,100", "v1;#1 1:0,0,-0", "v1;#1 1:0,0", "v1;#1 1:0,0,5;2:0,0,5", "v1;1:0,0,5", "v1 1:0,0,5", "v1;#1 1:0,0,5 ;#2", "v1;#1  1:0,0,5",
		"v1;#1 1:0,0,1 2:0,0,1 3:0,0,1 4:0,0,1 5:0,0,1 6:0,0,1 7:0,0,1",
		strings.Repeat("v1", 1000), strings.Repeat("v1;", 1000), strings.Repeat(";", 1000), "v1" + strings.Repeat(";", 1000), "v1" + strings.Repeat(";#1", 1000), "v1;#1" + strings.Repeat(" 1:0,0,5", 1000), "v1;" + strings.Repeat("#1 ", 1000),
	} {
		if x, ok := impl.ParseTable(s); x.Version != 0 || len(x.Blocks) != 0 || ok {
			t.Errorf("ParseTable(%q) = %v, %v, want the zero value and false", s, x, ok)
		}
	}
}

// spaciousTable returns a copy of a table in which the blocks and the rows of each lie in longer arrays, together with these arrays.
func spaciousTable(x impl.Table) (impl.Table, []impl.Block, [][]impl.Row) {
	blocks := make([]impl.Block, len(x.Blocks)+10)
	for i := range blocks {
		blocks[i] = fullBlock(20-i%20, i+1)
	}
	copy(blocks, x.Blocks)
	var arrays [][]impl.Row
	for i, b := range x.Blocks {
		rows := make([]impl.Row, len(b.Rows)+10)
		for j := range rows {
			rows[j] = fullRow(99 - j)
		}
		copy(rows, b.Rows)
		blocks[i].Rows = rows[:len(b.Rows)]
		arrays = append(arrays, rows)
	}
	return impl.Table{Version: x.Version, Blocks: blocks[:len(x.Blocks)]}, blocks, arrays
}

func TestTablesAreNotModified(t *testing.T) {
	tables := append(invalidTables(), greatestTable())
	for _, c := range validTableTexts {
		tables = append(tables, c.x)
	}
	for _, original := range tables {
		x, blocks, arrays := spaciousTable(original)
		heldBlocks := copiedTable(impl.Table{Blocks: blocks})
		var heldArrays [][]impl.Row
		for _, rows := range arrays {
			heldArrays = append(heldArrays, slices.Clone(rows))
		}
		impl.IsValidTable(x)
		impl.FindBlock(x, 1)
		impl.BlockOfRow(x, 1)
		impl.CountRows(x)
		impl.EqualTables(x, original)
		impl.FormatTable(x)
		if !sameTable(impl.Table{Blocks: blocks}, heldBlocks) || !slices.EqualFunc(arrays, heldArrays, slices.Equal[[]impl.Row]) {
			t.Errorf("a function changes %v", original)
		}
	}
}

// overwrite changes every block and every row of a table, also in the unused capacity.
func overwrite(x impl.Table) {
	for i, b := range x.Blocks {
		rows := b.Rows[:cap(b.Rows)]
		for j := range rows {
			rows[j] = impl.Row{ID: -1 - i}
		}
	}
	blocks := x.Blocks[:cap(x.Blocks)]
	for i := range blocks {
		blocks[i] = impl.Block{ID: -1}
	}
}

func TestParsedTablesShareNoMemory(t *testing.T) {
	for _, c := range validTableTexts {
		x, _ := impl.ParseTable(c.text)
		for i, b := range x.Blocks {
			rows := b.Rows[:cap(b.Rows)]
			for j := range rows {
				rows[j] = impl.Row{ID: -1}
			}
			for j := i + 1; j < len(x.Blocks); j++ {
				if !sameBlock(x.Blocks[j], c.x.Blocks[j]) {
					t.Errorf("blocks %d and %d of ParseTable(%q) share rows", i, j, c.text)
				}
			}
		}
		overwrite(x)
		if y, ok := impl.ParseTable(c.text); !sameTable(y, c.x) || !ok {
			t.Errorf("ParseTable(%q) a second time = %v, %v", c.text, y, ok)
		}
	}
}

func TestNewTablesShareNoMemory(t *testing.T) {
	overwrite(impl.NewTable())
	x := impl.NewTable()
	y := impl.NewTable()
	x.Blocks = append(x.Blocks, blockOf(1))
	y.Blocks = append(y.Blocks, blockOf(2))
	if x.Blocks[0].ID != 1 || impl.FormatTable(impl.NewTable()) != "v0" {
		t.Errorf("two tables of NewTable share memory: %v and %v", x, y)
	}
}
