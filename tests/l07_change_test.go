package tests

import (
	"fmt"
	"math"
	"math/rand"
	"regexp"
	"slices"
	"strconv"
	"strings"
	"testing"

	"loop.example/g01927/impl"
)

// Promise 4: an accepted change yields the next version of a valid table; a refused one changes nothing.
// Promise 2, changes: they can be parsed from their string format; no other strings are accepted.

func appendTo(block int, r impl.Row) impl.Change {
	return impl.Change{Kind: impl.KindAppend, Block: block, Row: r}
}

func correctTo(r impl.Row) impl.Change { return impl.Change{Kind: impl.KindCorrect, Row: r} }

func deleteOf(id int) impl.Change {
	return impl.Change{Kind: impl.KindDelete, Row: impl.Row{ID: id}}
}

func retainFrom(block int) impl.Change { return impl.Change{Kind: impl.KindRetain, Block: block} }

// A valueText is a valid value with its text.
type valueText[T any] struct {
	x    T
	text string
}

// checkTexts checks that the valid values are formatted as their texts and parsed from them, and that the invalid ones have no text.
func checkTexts[T any](t *testing.T, valid []valueText[T], invalid []T, same func(T, T) bool, isValid func(T) bool, format func(T) string, parse func(string) (T, bool)) {
	t.Helper()
	for _, c := range valid {
		got, ok := parse(c.text)
		if s := format(c.x); s != c.text || !ok || !same(got, c.x) || !isValid(c.x) {
			t.Errorf("%v has the text %q, want %q, which is parsed as %v, %v", c.x, s, c.text, got, ok)
		}
	}
	for _, x := range invalid {
		if s := format(x); s != "" || isValid(x) {
			t.Errorf("%v is valid or has the text %q", x, s)
		}
	}
}

// validChangeTexts lists changes at their limits and between them, with the text of each.
var validChangeTexts = []valueText[impl.Change]{
	{appendTo(1, impl.Row{ID: 1}), "append 1 1:0,0,0"},
	{appendTo(20, impl.Row{ID: 99, Group: 3, Y: 8, X: -99}), "append 20 99:3,8,-99"},
	{appendTo(2, impl.Row{ID: 7, X: 1}), "append 2 7:0,0,1"},
	{appendTo(10, impl.Row{ID: 10, Group: 2, Y: 5, Null: true}), "append 10 10:2,5,null"},
	{correctTo(impl.Row{ID: 1}), "correct 1:0,0,0"},
	{correctTo(impl.Row{ID: 99, Group: 3, Y: 8, X: 99}), "correct 99:3,8,99"},
	{correctTo(impl.Row{ID: 42, Group: 1, Y: 4, X: -10}), "correct 42:1,4,-10"},
	{correctTo(impl.Row{ID: 9, Null: true}), "correct 9:0,0,null"},
	{deleteOf(1), "delete 1"},
	{deleteOf(9), "delete 9"},
	{deleteOf(10), "delete 10"},
	{deleteOf(21), "delete 21"},
	{deleteOf(99), "delete 99"},
	{retainFrom(1), "retain 1"},
	{retainFrom(9), "retain 9"},
	{retainFrom(10), "retain 10"},
	{retainFrom(20), "retain 20"},
}

// invalidChanges returns changes whose kind is none, or of which a field does not suit the kind.
func invalidChanges() []impl.Change {
	all := []impl.Change{{}}
	for _, kind := range []int{0, 5, 6, -1, -4, 1<<32 + 1, math.MaxInt, math.MinInt} {
		for _, c := range validChangeTexts {
			x := c.x
			x.Kind = kind
			all = append(all, x)
		}
	}
	for _, block := range []int{0, -1, -20, 21, 22, 99, 1<<32 + 1, math.MaxInt, math.MinInt} {
		all = append(all, appendTo(block, fullRow(1)), retainFrom(block))
	}
	for _, block := range []int{1, 2, 20, -1, 21, 1 << 32, math.MaxInt, math.MinInt} {
		all = append(all, impl.Change{Kind: impl.KindCorrect, Block: block, Row: fullRow(1)}, impl.Change{Kind: impl.KindDelete, Block: block, Row: impl.Row{ID: 1}})
	}
	for _, r := range invalidRows {
		all = append(all, appendTo(1, r), correctTo(r), impl.Change{Kind: impl.KindDelete, Row: r})
		if r != (impl.Row{}) {
			all = append(all, impl.Change{Kind: impl.KindRetain, Block: 1, Row: r})
		}
	}
	for _, r := range []impl.Row{{Group: 1}, {Y: 1}, {X: 1}, {Null: true}, {Group: -1}, {Y: -1}, {X: -1}, {Group: 3, Y: 8, X: 99}, {X: 1 << 32}} {
		all = append(all, impl.Change{Kind: impl.KindRetain, Block: 1, Row: r})
		r.ID = 1
		all = append(all, impl.Change{Kind: impl.KindRetain, Block: 1, Row: r}, impl.Change{Kind: impl.KindDelete, Row: r})
	}
	for _, id := range []int{1, 99, 100, -1} {
		all = append(all, impl.Change{Kind: impl.KindRetain, Block: 1, Row: impl.Row{ID: id}})
	}
	return all
}

// modelIsValidChange compares a change with the one that has no other fields than its kind needs.
func modelIsValidChange(x impl.Change) bool {
	isBlock := x.Block > 0 && x.Block < 21
	switch x {
	case appendTo(x.Block, x.Row):
		return isBlock && impl.IsValidRow(x.Row)
	case correctTo(x.Row):
		return impl.IsValidRow(x.Row)
	case deleteOf(x.Row.ID):
		return x.Row.ID > 0 && x.Row.ID < 100
	case retainFrom(x.Block):
		return isBlock
	}
	return false
}

// A placedRow is a row with the ID of its block. The block of a row that is the zero value is there, but the row is none.
type placedRow struct {
	block int
	row   impl.Row
}

func placedRows(x impl.Table) []placedRow {
	var all []placedRow
	for _, b := range x.Blocks {
		all = append(all, placedRow{block: b.ID})
		for _, r := range b.Rows {
			all = append(all, placedRow{b.ID, r})
		}
	}
	return all
}

func tableOfPlaced(version int, all []placedRow) impl.Table {
	slices.SortFunc(all, func(a placedRow, b placedRow) int { return 1000*(a.block-b.block) + a.row.ID - b.row.ID })
	x := impl.Table{Version: version}
	for _, p := range all {
		if p.row.ID == 0 {
			x.Blocks = append(x.Blocks, impl.Block{ID: p.block})
			continue
		}
		b := &x.Blocks[len(x.Blocks)-1]
		b.Rows = append(b.Rows, p.row)
	}
	return x
}

// modelCode decides by the list of all rows, without the places of blocks and rows in the table.
func modelCode(x impl.Table, c impl.Change) int {
	if !modelIsValidTable(x) || !modelIsValidChange(c) || x.Version > 98 {
		return 1
	}
	rowIsThere, rows, blocks, lastBlock := false, 0, 0, 0
	for _, p := range placedRows(x) {
		rowIsThere = rowIsThere || p.row.ID != 0 && p.row.ID == c.Row.ID
		if p.block == c.Block {
			rows++
		}
		if p.row.ID == 0 {
			blocks++
			lastBlock = max(lastBlock, p.block)
		}
	}
	// The block itself is counted among its rows.
	if rows > 0 {
		lastBlock, blocks = 0, 0
	}
	switch {
	case c.Kind == 2 || c.Kind == 3:
		return map[bool]int{true: 0, false: 3}[rowIsThere]
	case c.Kind == 4:
		return 0
	case rowIsThere:
		return 2
	case rows == 7:
		return 4
	case lastBlock > c.Block:
		return 3
	case blocks == 6:
		return 4
	}
	return 0
}

func modelApply(x impl.Table, c impl.Change) (impl.Table, int) {
	if code := modelCode(x, c); code != 0 {
		return copiedTable(x), code
	}
	var all []placedRow
	isNew := c.Kind == 1
	for _, p := range placedRows(x) {
		isNew = isNew && p.block != c.Block
		isMeant := p.row.ID != 0 && p.row.ID == c.Row.ID
		if c.Kind == 4 && p.block < c.Block || c.Kind == 3 && isMeant {
			continue
		}
		if c.Kind == 2 && isMeant {
			p.row = c.Row
		}
		all = append(all, p)
	}
	if isNew {
		all = append(all, placedRow{block: c.Block})
	}
	if c.Kind == 1 {
		all = append(all, placedRow{c.Block, c.Row})
	}
	return tableOfPlaced(x.Version+1, all), 0
}

// checkApply compares ApplyChange with the model, and checks the promise by itself.
func checkApply(t *testing.T, x impl.Table, c impl.Change) (impl.Table, int) {
	t.Helper()
	held := copiedTable(x)
	want, wantCode := modelApply(x, c)
	got, code := impl.ApplyChange(x, c)
	if !sameTable(got, want) || code != wantCode {
		t.Fatalf("ApplyChange(%v, %v) = %v, %d, want %v, %d", x, c, got, code, want, wantCode)
	}
	if code == 0 && (!impl.IsValidTable(got) || got.Version != x.Version+1) {
		t.Fatalf("ApplyChange(%v, %v) = %v is not the next version of a valid table", x, c, got)
	}
	if code != 0 && !sameTable(got, held) {
		t.Fatalf("ApplyChange(%v, %v) = %v, but the code is %d", x, c, got, code)
	}
	if !sameTable(x, held) {
		t.Fatalf("ApplyChange(.., %v) changes %v to %v", c, held, x)
	}
	return got, code
}

// changesOf returns changes of every kind, and of kinds that are none, for these blocks and rows.
func changesOf(blocks []int, ids []int) []impl.Change {
	var all []impl.Change
	for _, id := range ids {
		for _, r := range []impl.Row{fullRow(id), {ID: id}, {ID: id, Group: 3, Y: 8, Null: true}} {
			all = append(all, correctTo(r), impl.Change{Kind: impl.KindDelete, Row: r})
			for _, block := range blocks {
				all = append(all, appendTo(block, r))
			}
		}
	}
	for _, block := range blocks {
		all = append(all, retainFrom(block), impl.Change{Kind: 5, Block: block, Row: fullRow(1)}, impl.Change{Kind: impl.KindDelete, Block: block, Row: impl.Row{ID: 1}})
	}
	return all
}

func TestChangeConstants(t *testing.T) {
	codes := []int{impl.ChangeOk, impl.ChangeInvalid, impl.ChangeTaken, impl.ChangeMissing, impl.ChangeFull}
	kinds := []int{impl.KindAppend, impl.KindCorrect, impl.KindDelete, impl.KindRetain}
	if !slices.Equal(codes, []int{0, 1, 2, 3, 4}) || !slices.Equal(kinds, []int{1, 2, 3, 4}) {
		t.Errorf("the codes are %v and the kinds %v", codes, kinds)
	}
}

func TestTextsOfChanges(t *testing.T) {
	checkTexts(t, validChangeTexts, invalidChanges(), equal[impl.Change], impl.IsValidChange, impl.FormatChange, impl.ParseChange)
}

func TestIsValidChangeOfEveryField(t *testing.T) {
	for n := -300; n <= 300; n++ {
		isBlock, isRow := 1 <= n && n <= 20, 1 <= n && n <= 99
		cases := []struct {
			x    impl.Change
			want bool
		}{
			{impl.Change{Kind: n, Block: 1, Row: impl.Row{ID: 1}}, n == 1},
			{impl.Change{Kind: n, Row: impl.Row{ID: 1, X: 1}}, n == 2},
			{impl.Change{Kind: n, Row: impl.Row{ID: 1}}, n == 2 || n == 3},
			{impl.Change{Kind: n, Block: 1}, n == 4},
			{impl.Change{Kind: n}, false},
			{appendTo(n, fullRow(1)), isBlock},
			{appendTo(1, impl.Row{ID: n}), isRow},
			{correctTo(impl.Row{ID: n, Group: 1}), isRow},
			{correctTo(impl.Row{ID: 1, X: n}), -99 <= n && n <= 99},
			{impl.Change{Kind: 2, Block: n, Row: fullRow(1)}, n == 0},
			{deleteOf(n), isRow},
			{impl.Change{Kind: 3, Block: n, Row: impl.Row{ID: 1}}, n == 0},
			{impl.Change{Kind: 3, Row: impl.Row{ID: 1, Group: n}}, n == 0},
			{impl.Change{Kind: 3, Row: impl.Row{ID: 1, Y: n}}, n == 0},
			{impl.Change{Kind: 3, Row: impl.Row{ID: 1, X: n}}, n == 0},
			{impl.Change{Kind: 3, Row: impl.Row{ID: 1, X: n, Null: true}}, false},
			{retainFrom(n), isBlock},
			{impl.Change{Kind: 4, Block: 1, Row: impl.Row{ID: n}}, n == 0},
			{impl.Change{Kind: 4, Block: 1, Row: impl.Row{Group: n}}, n == 0},
			{impl.Change{Kind: 4, Block: 1, Row: impl.Row{Y: n}}, n == 0},
			{impl.Change{Kind: 4, Block: 1, Row: impl.Row{X: n}}, n == 0},
			{impl.Change{Kind: 4, Block: 1, Row: impl.Row{X: n, Null: true}}, false},
		}
		for _, c := range cases {
			if impl.IsValidChange(c.x) != c.want {
				t.Errorf("IsValidChange(%v) is %v", c.x, !c.want)
			}
			if s := impl.FormatChange(c.x); (s != "") != c.want {
				t.Errorf("FormatChange(%v) = %q", c.x, s)
			}
		}
	}
}

// checkChange checks the result of one change against a table that is written out.
func checkChange(t *testing.T, before string, change string, after string, code int) {
	t.Helper()
	x, xOk := impl.ParseTable(before)
	c, cOk := impl.ParseChange(change)
	if !xOk || !cOk {
		t.Fatalf("%q or %q is not parsed", before, change)
	}
	got, gotCode := checkApply(t, x, c)
	if s := impl.FormatTable(got); s != after || gotCode != code {
		t.Errorf("%q and %q give %q and the code %d, want %q and %d", before, change, s, gotCode, after, code)
	}
}

func TestApplyChange(t *testing.T) {
	three := "v3;#1 1:0,0,5 2:0,1,-3 3:1,4,10;#2 4:1,7,null 5:1,8,2;#3 6:0,2,7"
	gaps := "v7;#3 5:0,0,1;#6 9:0,0,2;#9"
	cases := []struct{ before, change, after string }{
		{"v0", "append 1 1:0,0,0", "v1;#1 1:0,0,0"},
		{"v0", "append 20 99:3,8,null", "v1;#20 99:3,8,null"},
		{"v98", "append 2 1:0,0,0", "v99;#2 1:0,0,0"},
		{three, "append 2 7:0,0,1", "v4;#1 1:0,0,5 2:0,1,-3 3:1,4,10;#2 4:1,7,null 5:1,8,2 7:0,0,1;#3 6:0,2,7"},
		{three, "append 4 7:0,0,1", "v4;#1 1:0,0,5 2:0,1,-3 3:1,4,10;#2 4:1,7,null 5:1,8,2;#3 6:0,2,7;#4 7:0,0,1"},
		{gaps, "append 3 1:0,0,4", "v8;#3 1:0,0,4 5:0,0,1;#6 9:0,0,2;#9"},
		{gaps, "append 6 20:0,0,4", "v8;#3 5:0,0,1;#6 9:0,0,2 20:0,0,4;#9"},
		{gaps, "append 9 7:0,0,4", "v8;#3 5:0,0,1;#6 9:0,0,2;#9 7:0,0,4"},
		{gaps, "append 10 7:0,0,4", "v8;#3 5:0,0,1;#6 9:0,0,2;#9;#10 7:0,0,4"},
		{"v1;#1;#2;#3;#4;#5", "append 20 7:0,0,4", "v2;#1;#2;#3;#4;#5;#20 7:0,0,4"},
		{"v1;#1;#2;#3;#4;#5;#6", "append 1 7:0,0,4", "v2;#1 7:0,0,4;#2;#3;#4;#5;#6"},
		{"v1;#2 1:0,0,0 2:0,0,0 4:0,0,0 5:0,0,0 6:0,0,0", "append 2 3:0,0,9", "v2;#2 1:0,0,0 2:0,0,0 3:0,0,9 4:0,0,0 5:0,0,0 6:0,0,0"},
		{"v1;#2 1:0,0,0 2:0,0,0 3:0,0,0 4:0,0,0 5:0,0,0 6:0,0,0", "append 3 7:0,0,9", "v2;#2 1:0,0,0 2:0,0,0 3:0,0,0 4:0,0,0 5:0,0,0 6:0,0,0;#3 7:0,0,9"},
		{three, "correct 6:1,1,1", "v4;#1 1:0,0,5 2:0,1,-3 3:1,4,10;#2 4:1,7,null 5:1,8,2;#3 6:1,1,1"},
		{three, "correct 2:3,8,null", "v4;#1 1:0,0,5 2:3,8,null 3:1,4,10;#2 4:1,7,null 5:1,8,2;#3 6:0,2,7"},
		{three, "correct 4:1,7,-99", "v4;#1 1:0,0,5 2:0,1,-3 3:1,4,10;#2 4:1,7,-99 5:1,8,2;#3 6:0,2,7"},
		{three, "correct 1:0,0,5", "v4;#1 1:0,0,5 2:0,1,-3 3:1,4,10;#2 4:1,7,null 5:1,8,2;#3 6:0,2,7"},
		{three, "delete 3", "v4;#1 1:0,0,5 2:0,1,-3;#2 4:1,7,null 5:1,8,2;#3 6:0,2,7"},
		{three, "delete 1", "v4;#1 2:0,1,-3 3:1,4,10;#2 4:1,7,null 5:1,8,2;#3 6:0,2,7"},
		{three, "delete 6", "v4;#1 1:0,0,5 2:0,1,-3 3:1,4,10;#2 4:1,7,null 5:1,8,2;#3"},
		{gaps, "delete 5", "v8;#3;#6 9:0,0,2;#9"},
		{three, "retain 1", "v4;#1 1:0,0,5 2:0,1,-3 3:1,4,10;#2 4:1,7,null 5:1,8,2;#3 6:0,2,7"},
		{three, "retain 2", "v4;#2 4:1,7,null 5:1,8,2;#3 6:0,2,7"},
		{three, "retain 3", "v4;#3 6:0,2,7"},
		{three, "retain 4", "v4"},
		{three, "retain 20", "v4"},
		{gaps, "retain 2", "v8;#3 5:0,0,1;#6 9:0,0,2;#9"},
		{gaps, "retain 5", "v8;#6 9:0,0,2;#9"},
		{gaps, "retain 9", "v8;#9"},
		{"v0", "retain 1", "v1"},
		{"v98", "retain 20", "v99"},
	}
	for _, c := range cases {
		checkChange(t, c.before, c.change, c.after, impl.ChangeOk)
	}
}

func TestApplyChangeRefuses(t *testing.T) {
	full := "v5;#2 1:0,0,0 2:0,0,0 3:0,0,0 4:0,0,0 5:0,0,0 6:0,0,0"
	six := "v5;#2 1:0,0,0;#4;#6;#8;#10;#12 9:0,0,0"
	cases := []struct {
		before, change string
		code           int
	}{
		{"v0", "correct 1:0,0,0", impl.ChangeMissing},
		{"v0", "delete 1", impl.ChangeMissing},
		{"v5;#2 1:0,0,0", "correct 2:0,0,0", impl.ChangeMissing},
		{"v5;#2 1:0,0,0", "delete 2", impl.ChangeMissing},
		{six, "correct 12:0,0,0", impl.ChangeMissing},
		{six, "delete 12", impl.ChangeMissing},
		{"v5;#2 1:0,0,0", "append 2 1:0,0,1", impl.ChangeTaken},
		{"v5;#2 1:0,0,0;#3", "append 3 1:0,0,0", impl.ChangeTaken},
		{"v5;#2;#3 1:0,0,0", "append 2 1:0,0,0", impl.ChangeTaken},
		{"v5;#2 1:0,0,0", "append 3 1:0,0,0", impl.ChangeTaken},
		{full, "append 2 7:0,0,0", impl.ChangeFull},
		{full + ";#3", "append 2 99:0,0,0", impl.ChangeFull},
		{"v5;#2", "append 1 1:0,0,0", impl.ChangeMissing},
		{"v5;#20", "append 19 1:0,0,0", impl.ChangeMissing},
		{"v5;#2;#4", "append 3 1:0,0,0", impl.ChangeMissing},
		{six, "append 13 2:0,0,0", impl.ChangeFull},
		{six, "append 20 2:0,0,0", impl.ChangeFull},
		// Two codes apply, and the first one counts.
		{"v99;#2 1:0,0,0", "correct 2:0,0,0", impl.ChangeInvalid},
		{"v99;#2 1:0,0,0", "correct 1:0,0,0", impl.ChangeInvalid},
		{"v99;#2 1:0,0,0", "delete 2", impl.ChangeInvalid},
		{"v99;#2 1:0,0,0", "delete 1", impl.ChangeInvalid},
		{"v99;#2 1:0,0,0", "append 2 1:0,0,0", impl.ChangeInvalid},
		{"v99;#2 1:0,0,0", "append 1 2:0,0,0", impl.ChangeInvalid},
		{"v99;#2 1:0,0,0", "append 2 2:0,0,0", impl.ChangeInvalid},
		{"v99;#2 1:0,0,0", "retain 1", impl.ChangeInvalid},
		{"v99", "retain 20", impl.ChangeInvalid},
		{"v99" + full[2:], "append 2 7:0,0,0", impl.ChangeInvalid},
		{"v99" + six[2:], "append 13 2:0,0,0", impl.ChangeInvalid},
		{full, "append 2 6:0,0,0", impl.ChangeTaken},
		{full, "append 1 6:0,0,0", impl.ChangeTaken},
		{six, "append 5 9:0,0,0", impl.ChangeTaken},
		{six, "append 20 9:0,0,0", impl.ChangeTaken},
		{six, "append 5 2:0,0,0", impl.ChangeMissing},
		{six, "append 1 2:0,0,0", impl.ChangeMissing},
		{"v5;#1" + full[2:], "append 2 7:0,0,0", impl.ChangeFull},
	}
	for _, c := range cases {
		checkChange(t, c.before, c.change, c.before, c.code)
	}
}

func checkInvalid(t *testing.T, x impl.Table, c impl.Change) {
	t.Helper()
	if _, code := checkApply(t, x, c); code != impl.ChangeInvalid {
		t.Errorf("ApplyChange(%v, %v) returns the code %d", x, c, code)
	}
}

func TestApplyChangeToInvalidTables(t *testing.T) {
	for _, x := range invalidTables() {
		checkInvalid(t, x, impl.Change{})
		for _, c := range validChangeTexts {
			checkInvalid(t, x, c.x)
		}
	}
}

func TestApplyInvalidChanges(t *testing.T) {
	for _, x := range []impl.Table{{}, tableOf(99), fullTable(3, []int{1, 2, 3}, []int{4, 5}, []int{6}), greatestTable()} {
		for _, c := range invalidChanges() {
			checkInvalid(t, x, c)
		}
	}
}

func TestApplyEveryChangeToEverySmallTable(t *testing.T) {
	changes := changesOf([]int{0, 1, 2, 3, 4}, []int{0, 1, 2, 3, 4})
	codes := [5]int{}
	eachTable(func(x impl.Table) {
		if !modelIsValidTable(x) && len(x.Blocks) > 2 {
			return
		}
		for _, c := range changes {
			_, code := checkApply(t, x, c)
			codes[code]++
		}
	})
	if codes[0] == 0 || codes[1] == 0 || codes[2] == 0 || codes[3] == 0 {
		t.Errorf("not every code is returned: %v", codes)
	}
}

func TestApplyEveryChangeToLargeTables(t *testing.T) {
	var blocks, ids []int
	for n := 0; n <= 100; n++ {
		if ids = append(ids, n); n <= 21 {
			blocks = append(blocks, n)
		}
	}
	greatest := greatestTable()
	for _, version := range []int{0, 98, 99} {
		greatest.Version = version
		more := copiedTable(greatest)
		more.Blocks = more.Blocks[:5]
		less := copiedTable(greatest)
		for i := range less.Blocks {
			less.Blocks[i].ID = 3*i + 2
			less.Blocks[i].Rows = less.Blocks[i].Rows[:6-i]
		}
		for _, x := range []impl.Table{greatest, more, less} {
			for _, c := range changesOf(blocks, ids) {
				checkApply(t, x, c)
			}
		}
	}
}

func TestEveryVersionIsFollowedByTheNext(t *testing.T) {
	x := impl.NewTable()
	for version := range 99 {
		c := []impl.Change{appendTo(1+version/20, fullRow(1)), correctTo(fullRow(1)), deleteOf(1), retainFrom(1)}[version%4]
		next, code := checkApply(t, x, c)
		if code != impl.ChangeOk || next.Version != version+1 {
			t.Fatalf("ApplyChange(%v, %v) = %v, %d", x, c, next, code)
		}
		x = next
	}
	if _, code := checkApply(t, x, retainFrom(1)); code != impl.ChangeInvalid {
		t.Errorf("a change of version 99 returns the code %d", code)
	}
}

// Long sequences fill and empty blocks, so that every code is met in tables that only changes have made.
func TestApplyLongSequencesOfChanges(t *testing.T) {
	random := rand.New(rand.NewSource(7))
	codes := [5]int{}
	for range 200 {
		x := impl.Table{Version: random.Intn(80)}
		for range 200 {
			id, block := 1+random.Intn(40), 1+random.Intn(8)
			c := appendTo(block, impl.Row{ID: id, Group: random.Intn(4), Y: random.Intn(9), X: random.Intn(199) - 99})
			switch random.Intn(20) {
			case 0:
				c = retainFrom(1 + random.Intn(5))
			case 1, 2:
				c = deleteOf(id)
			case 3, 4:
				c = correctTo(c.Row)
			}
			code := 0
			x, code = checkApply(t, x, c)
			codes[code]++
		}
	}
	if slices.Contains(codes[:], 0) {
		t.Errorf("not every code is returned: %v", codes)
	}
}

func TestApplyChanges(t *testing.T) {
	x := fullTable(3, []int{1, 2, 3}, []int{4, 5}, []int{6})
	ok, invalid, taken, missing, full := impl.ChangeOk, impl.ChangeInvalid, impl.ChangeTaken, impl.ChangeMissing, impl.ChangeFull
	cases := []struct {
		x     impl.Table
		l     []impl.Change
		want  impl.Table
		codes []int
	}{
		{x, nil, x, nil},
		{x, []impl.Change{}, x, nil},
		{x, []impl.Change{deleteOf(1), deleteOf(2)}[:0], x, nil},
		{x, []impl.Change{deleteOf(1)}, fullTable(4, []int{2, 3}, []int{4, 5}, []int{6}), []int{ok}},
		{x, []impl.Change{deleteOf(1), deleteOf(1), appendTo(3, fullRow(1)), appendTo(3, fullRow(1))}, fullTable(5, []int{2, 3}, []int{4, 5}, []int{1, 6}), []int{ok, missing, ok, taken}},
		{x, []impl.Change{{}, retainFrom(3), appendTo(2, fullRow(9)), correctTo(impl.Row{ID: 6})}, tableOf(5, blockOf(3, 6)), []int{invalid, ok, missing, ok}},
		{x, []impl.Change{appendTo(4, fullRow(7)), deleteOf(7), retainFrom(4)}, tableOf(6, blockOf(4)), []int{ok, ok, ok}},
		{tableOf(97), []impl.Change{retainFrom(1), retainFrom(1), retainFrom(1), appendTo(1, fullRow(1)), {}}, tableOf(99), []int{ok, ok, invalid, invalid, invalid}},
		{tableOf(0, blockOf(1), blockOf(2), blockOf(3), blockOf(4), blockOf(5)), []impl.Change{appendTo(6, fullRow(1)), appendTo(7, fullRow(2)), retainFrom(2), appendTo(7, fullRow(2))},
			tableOf(3, blockOf(2), blockOf(3), blockOf(4), blockOf(5), fullBlock(6, 1), fullBlock(7, 2)), []int{ok, full, ok, ok}},
		{tableOf(-1), []impl.Change{retainFrom(1), {}}, tableOf(-1), []int{invalid, invalid}},
		{tableOf(3, blockOf(2, 1), blockOf(1, 1)), []impl.Change{deleteOf(1), retainFrom(2)}, tableOf(3, blockOf(2, 1), blockOf(1, 1)), []int{invalid, invalid}},
		{tableOf(100), nil, tableOf(100), nil},
	}
	for _, c := range cases {
		held := slices.Clone(c.l)
		got, codes := impl.ApplyChanges(c.x, c.l)
		if !sameTable(got, c.want) || !slices.Equal(codes, c.codes) {
			t.Errorf("ApplyChanges(%v, %v) = %v, %v, want %v, %v", c.x, c.l, got, codes, c.want, c.codes)
		}
		if !slices.Equal(c.l, held) {
			t.Errorf("ApplyChanges changes the list %v to %v", held, c.l)
		}
	}
}

func TestApplyChangesOfEveryLength(t *testing.T) {
	for n := 0; n <= 130; n++ {
		for _, first := range []impl.Change{retainFrom(1), {}, deleteOf(1)} {
			l := make([]impl.Change, n)
			for i := range l {
				// The list ends with changes that all tables accept, so that one too many is noticed.
				if l[i] = first; i > n/2 {
					l[i] = retainFrom(1)
				}
			}
			x := fullTable(8, []int{5}, []int{6})
			want, wantCodes := copiedTable(x), []int(nil)
			for i := 0; i < n && i < 60; i++ {
				next, code := modelApply(want, l[i])
				want, wantCodes = next, append(wantCodes, code)
			}
			got, codes := impl.ApplyChanges(x, l)
			if !sameTable(got, want) || !slices.Equal(codes, wantCodes) {
				t.Errorf("ApplyChanges of %d changes = %v, %v, want %v, %v", n, got, codes, want, wantCodes)
			}
		}
	}
}

func TestApplyChangesIsApplyChangeRepeated(t *testing.T) {
	random := rand.New(rand.NewSource(8))
	changes := append(changesOf([]int{0, 1, 2, 3, 4, 5, 6, 7, 8}, []int{0, 1, 2, 3, 4, 5, 6, 7, 8, 9}), retainFrom(1))
	for range 300 {
		x := impl.Table{Version: random.Intn(101)}
		l := make([]impl.Change, random.Intn(70))
		for i := range l {
			l[i] = changes[random.Intn(len(changes))]
		}
		want, wantCodes := x, []int(nil)
		for _, c := range l[:min(len(l), 60)] {
			code := 0
			want, code = impl.ApplyChange(want, c)
			wantCodes = append(wantCodes, code)
		}
		if got, codes := impl.ApplyChanges(x, l); !sameTable(got, want) || !slices.Equal(codes, wantCodes) {
			t.Fatalf("ApplyChanges(%v, %v) = %v, %v, want %v, %v", x, l, got, codes, want, wantCodes)
		}
	}
}

func TestEveryChangeIsParsedFromItsFormat(t *testing.T) {
	check := func(x impl.Change, want string) {
		s := impl.FormatChange(x)
		if got, ok := impl.ParseChange(s); s != want || got != x || !ok {
			t.Fatalf("FormatChange(%v) = %q, want %q, and ParseChange returns %v, %v", x, s, want, got, ok)
		}
	}
	for id := 1; id <= 99; id++ {
		check(deleteOf(id), "delete "+strconv.Itoa(id))
	}
	for block := 1; block <= 20; block++ {
		check(retainFrom(block), "retain "+strconv.Itoa(block))
	}
	eachRow([]int{1, 10, 99}, func(r impl.Row) {
		text := impl.FormatRow(r)
		check(correctTo(r), "correct "+text)
		block := 1 + (r.X+r.Y+99)%20
		check(appendTo(block, r), fmt.Sprintf("append %d %s", block, text))
	})
}

var changeFormat = regexp.MustCompile(`^(?:(append) ([1-9]|1[0-9]|20) (.*)|(correct) (.*)|(delete) ([1-9][0-9]?)|(retain) ([1-9]|1[0-9]|20))$`)

// readChange reads a change by its pattern and that of its row alone.
func readChange(s string) (impl.Change, bool) {
	m := changeFormat.FindStringSubmatch(s)
	if m == nil {
		return impl.Change{}, false
	}
	n, _ := strconv.Atoi(m[2] + m[7] + m[9])
	switch {
	case m[6] != "":
		return deleteOf(n), true
	case m[8] != "":
		return retainFrom(n), true
	}
	r, ok := readRow(m[3] + m[5])
	if !ok {
		return impl.Change{}, false
	}
	if m[1] != "" {
		return appendTo(n, r), true
	}
	return correctTo(r), true
}

func checkParseChange(t *testing.T, s string) bool {
	t.Helper()
	return checkParse(t, s, equal[impl.Change], readChange, impl.ParseChange, impl.FormatChange)
}

func TestParseChangeOfEveryShortTextOfAKind(t *testing.T) {
	accepted := 0
	for _, text := range append(shortStrings("0129- :,", 4), "1:0,0,5", "99:3,8,null") {
		for _, word := range []string{"append ", "append 1 ", "correct ", "delete ", "retain ", "append", "delete", ""} {
			if checkParseChange(t, word+text) {
				accepted++
			}
		}
	}
	// The numbers of the digits 0, 1, 2 and 9: 15 IDs of rows, with the space in either part, and 8 of blocks; and the 2 rows for append and correct.
	if accepted != 2*15+8+2*2 {
		t.Errorf("%d strings are accepted", accepted)
	}
}

func TestParseChangeOfEveryNumber(t *testing.T) {
	for n := -300; n <= 300; n++ {
		s := strconv.Itoa(n)
		for prefix, greatest := range map[string]int{"delete ": 99, "retain ": 20} {
			if checkParseChange(t, prefix+s) != (1 <= n && n <= greatest) {
				t.Errorf("ParseChange(%q) is wrong", prefix+s)
			}
		}
		if checkParseChange(t, "append "+s+" 1:0,0,5") != (1 <= n && n <= 20) {
			t.Errorf("ParseChange with the block %q is wrong", s)
		}
		if checkParseChange(t, "append 1 "+s+":0,0,5") != (1 <= n && n <= 99) || checkParseChange(t, "correct "+s+":0,0,5") != (1 <= n && n <= 99) {
			t.Errorf("ParseChange with the row %q is wrong", s)
		}
	}
}

func TestParseChangeOfEverySequenceOfParts(t *testing.T) {
	parts := []string{"append", "correct", "delete", "retain", "", "0", "1", "20", "21", "99", "1:0,0,5", "99:3,8,null", "100:0,0,0", "Append"}
	eachSequence(parts, " ", 4, func(s string) { checkParseChange(t, s) })
}

func TestParseChangeOfEveryChangedByte(t *testing.T) {
	for _, c := range validChangeTexts {
		eachChangedText(c.text, func(s string) { checkParseChange(t, s) })
	}
}

func TestParseChangeRefuses(t *testing.T) {
	for _, s := range []string{
		"", " ", "append", "correct", "delete", "retain", "append ", "correct ", "delete ", "retain ", "1", "1:0,0,5", "append 1", "append 1 ", "append 1:0,0,5", "append  1:0,0,5", "append 1  1:0,0,5", "append  1 1:0,0,5",
		"append 0 1:0,0,5", "append 21 1:0,0,5", "append -1 1:0,0,5", "append 01 1:0,0,5", "append +1 1:0,0,5", "append 1.0 1:0,0,5", "append #1 1:0,0,5", "append x 1:0,0,5", "append 4294967297 1:0,0,5", "append 18446744073709551617 1:0,0,5",
		"append 1 0:0,0,5", "append 1 100:0,0,5", "append 1 1:4,0,5", "append 1 1:0,9,5", "append 1 1:0,0,100", "append 1 1:0,0,-0", "append 1 1:0,0", "append 1 1", "append 1 1:0,0,5 ", "append 1 1:0,0,5 2:0,0,5", "append 1 1 1:0,0,5", "append 1,1:0,0,5", "append 1;1:0,0,5",
		"correct 0:0,0,5", "correct 100:0,0,5", "correct 1:4,0,5", "correct 1:0,9,5", "correct 1:0,0,100", "correct 1", "correct 1 1:0,0,5", "correct 0 1:0,0,5", "correct 1:0,0,5 ", "correct  1:0,0,5", "correct1:0,0,5", "correct 1:0,0,5 2:0,0,5",
		"delete 0", "delete 100", "delete -1", "delete 01", "delete +1", "delete 1 1", "delete 1 ", "delete  1", "delete1", "delete 1:0,0,5", "delete 1:0,0,0", "delete 0 1", "delete x", "delete 1.0", "delete 4294967297",
		"retain 0", "retain 21", "retain -1", "retain 01", "retain +1", "retain 1 1", "retain 1 ", "retain  1", "retain1", "retain 1:0,0,5", "retain #1", "retain x", "retain 99", "retain 4294967297", "retain 18446744073709551617",
		"Append 1 1:0,0,5", "APPEND 1 1:0,0,5", "Correct 1:0,0,5", "Delete 1", "Retain 1", "add 1 1:0,0,5", "remove 1", "insert 1 1:0,0,5", "update 1:0,0,5", "appends 1 1:0,0,5", "append_ 1 1:0,0,5", "deleted 1", "retai 1", "none 1", "1 1 1:0,0,5", "3 1", "4 1",
		" delete 1", "delete 1\n", "\ndelete 1", "delete\n1", "delete\t1", "delete 1\x00", "delete\x00 1", "delete 1\r\n", "delete 1;", "delete 1 delete 2", "delete 1\ndelete 2", "retain 1\x00", "correct 1:0,0,5\n", "append 1 1:0,0,5\n", "append\n1 1:0,0,5", "append 1\n1:0,0,5",
		"delete １", "delete\u00a01", "\xff", "delete \xff", "retain 1\xff",
		strings.Repeat(" ", 1000), strings.Repeat("append ", 1000), "append 1 " + strings.Repeat("1:0,0,5 ", 1000), "delete " + strings.Repeat("1", 1000), "retain " + strings.Repeat("0", 1000) + "1",
	} {
		if x, ok := impl.ParseChange(s); x != (impl.Change{}) || ok {
			t.Errorf("ParseChange(%q) = %v, %v, want the zero value and false", s, x, ok)
		}
	}
}

// textsOfBlocks returns the text of the first block with each ID.
func textsOfBlocks(x impl.Table) map[int]string {
	all := map[int]string{}
	for _, b := range slices.Backward(x.Blocks) {
		all[b.ID] = "a block" + fmt.Sprint(b.Rows)
	}
	return all
}

func TestChangedBlocks(t *testing.T) {
	base := fullTable(3, []int{1, 2, 3}, []int{4, 5}, []int{6})
	cases := []struct {
		a, b impl.Table
		want []int
	}{
		{impl.Table{}, impl.Table{}, nil},
		{base, base, nil},
		{base, fullTable(99, []int{1, 2, 3}, []int{4, 5}, []int{6}), nil},
		{base, impl.Table{}, []int{1, 2, 3}},
		{base, fullTable(3, []int{1, 2, 3}, []int{4}, []int{6}), []int{2}},
		{base, fullTable(3, []int{1, 2, 4}, []int{3, 5}, []int{6}), []int{1, 2}},
		{base, fullTable(3, []int{1, 2, 3}, []int{4, 5}), []int{3}},
		{base, fullTable(3, []int{1, 2, 3}, []int{4, 5}, []int{6}, []int{}), []int{4}},
		{base, fullTable(3, []int{}, []int{4, 5}, []int{}), []int{1, 3}},
		{tableOf(1, blockOf(1), blockOf(20)), tableOf(1, blockOf(2), blockOf(19)), []int{1, 2, 19, 20}},
		{tableOf(1, blockOf(7)), impl.Table{}, []int{7}},
		{tableOf(1, blockOf(7)), tableOf(1, impl.Block{ID: 7, Rows: []impl.Row{}}), nil},
		{tableOf(1, blockOf(7, 1)), tableOf(1, impl.Block{ID: 7, Rows: []impl.Row{{ID: 1, Null: true}}}), []int{7}},
		{tableOf(1, blockOf(7, 1)), tableOf(1, impl.Block{ID: 7, Rows: rowsOf(1, 2)[:1]}), nil},
		// Tables that are not valid.
		{tableOf(-1, blockOf(7)), tableOf(100), []int{7}},
		{tableOf(1, blockOf(0), blockOf(21), blockOf(-3), blockOf(math.MaxInt), blockOf(math.MinInt)), impl.Table{}, nil},
		{tableOf(1, blockOf(0, 1), blockOf(21, 1), blockOf(20)), tableOf(1, blockOf(0, 2), blockOf(21, 2), blockOf(20)), nil},
		{tableOf(1, blockOf(1<<32+5)), impl.Table{}, nil},
		{tableOf(1, blockOf(9), blockOf(5), blockOf(1)), tableOf(1, blockOf(5)), []int{1, 9}},
		{tableOf(1, blockOf(9, 3), blockOf(2, 4)), tableOf(1, blockOf(2, 4), blockOf(9, 3)), nil},
		{tableOf(1, blockOf(4, 1), blockOf(4, 2)), tableOf(1, blockOf(4, 1)), nil},
		{tableOf(1, blockOf(4, 1), blockOf(4, 2)), tableOf(1, blockOf(4, 2)), []int{4}},
		{tableOf(1, blockOf(4, 1), blockOf(4, 2)), tableOf(1, blockOf(4, 2), blockOf(4, 1)), []int{4}},
		{tableOf(1, blockOf(4, 1), blockOf(4, 2)), tableOf(1, blockOf(4, 1), blockOf(4, 3)), nil},
		{tableOf(1, blockOf(4, 2, 1)), tableOf(1, blockOf(4, 1, 2)), []int{4}},
		{tableOf(1, blockOf(4, 1, 1)), tableOf(1, blockOf(4, 1)), []int{4}},
		{tableOf(1, blockOf(4, 1, 2, 3, 4, 5, 6, 7)), tableOf(1, blockOf(4, 1, 2, 3, 4, 5, 6, 7)), nil},
		{tableOf(1, blockOf(4, 0)), tableOf(1, blockOf(4, -1)), []int{4}},
		{tableOf(1, blockOf(4)), tableOf(1, blockOf(4, 0)), []int{4}},
	}
	for _, c := range cases {
		if got := impl.ChangedBlocks(c.a, c.b); !slices.Equal(got, c.want) {
			t.Errorf("ChangedBlocks(%v, %v) = %v, want %v", c.a, c.b, got, c.want)
		}
		if got := impl.ChangedBlocks(c.b, c.a); !slices.Equal(got, c.want) {
			t.Errorf("ChangedBlocks(%v, %v) = %v, want %v", c.b, c.a, got, c.want)
		}
	}
}

func TestChangedBlocksOfManyTables(t *testing.T) {
	tables := append(invalidTables(), greatestTable())
	for _, c := range validTableTexts {
		tables = append(tables, c.x)
	}
	eachTable(func(x impl.Table) {
		if len(x.Blocks) == 1 || len(x.Blocks) == 2 && x.Blocks[0].ID%2 == 1 {
			tables = append(tables, x)
		}
	})
	var texts []map[int]string
	for _, x := range tables {
		texts = append(texts, textsOfBlocks(x))
	}
	for i, a := range tables {
		for j, b := range tables {
			var want []int
			for id := 1; id < 21; id++ {
				if texts[i][id] != texts[j][id] {
					want = append(want, id)
				}
			}
			if got := impl.ChangedBlocks(a, b); !slices.Equal(got, want) {
				t.Fatalf("ChangedBlocks(%v, %v) = %v, want %v", a, b, got, want)
			}
		}
	}
}

func TestChangedBlocksOfEveryPairOfIDs(t *testing.T) {
	for first := -1; first <= 22; first++ {
		for second := -1; second <= 22; second++ {
			var want []int
			for id := 1; id <= 20; id++ {
				if (id == first) != (id == second) {
					want = append(want, id)
				}
			}
			if got := impl.ChangedBlocks(tableOf(1, blockOf(first)), tableOf(1, blockOf(second))); !slices.Equal(got, want) {
				t.Errorf("ChangedBlocks of the blocks %d and %d = %v, want %v", first, second, got, want)
			}
		}
	}
}

func TestAChangeChangesOnlyItsBlocks(t *testing.T) {
	x := fullTable(3, []int{1, 2, 3}, []int{4, 5}, []int{6}, []int{})
	for _, c := range []struct {
		x    impl.Change
		want []int
	}{
		{appendTo(2, fullRow(9)), []int{2}}, {appendTo(9, fullRow(9)), []int{9}}, {appendTo(2, fullRow(6)), nil},
		{correctTo(impl.Row{ID: 5}), []int{2}}, {correctTo(fullRow(6)), nil}, {correctTo(fullRow(7)), nil},
		{deleteOf(6), []int{3}}, {deleteOf(7), nil}, {retainFrom(1), nil}, {retainFrom(3), []int{1, 2}}, {retainFrom(20), []int{1, 2, 3, 4}}, {impl.Change{}, nil},
	} {
		y, _ := impl.ApplyChange(x, c.x)
		if got := impl.ChangedBlocks(x, y); !slices.Equal(got, c.want) {
			t.Errorf("%v changes the blocks %v, want %v", c.x, got, c.want)
		}
	}
}

// checkOwnTables calls f with the table in longer arrays and checks that neither the call nor a change of its result changes the arrays, that a change of the arrays does not change the result, and that the blocks of the result share no rows.
func checkOwnTables(t *testing.T, name string, original impl.Table, f func(impl.Table) impl.Table) {
	t.Helper()
	x, blocks, arrays := spaciousTable(original)
	heldBlocks := copiedTable(impl.Table{Blocks: blocks})
	var heldArrays [][]impl.Row
	for _, rows := range arrays {
		heldArrays = append(heldArrays, slices.Clone(rows))
	}
	isUnchanged := func() bool {
		return sameTable(impl.Table{Blocks: blocks}, heldBlocks) && slices.EqualFunc(arrays, heldArrays, slices.Equal[[]impl.Row])
	}
	result := f(x)
	if !isUnchanged() {
		t.Fatalf("%s changes %v", name, original)
	}
	held := copiedTable(result)
	for i, b := range result.Blocks {
		rows := b.Rows[:cap(b.Rows)]
		for j := range rows {
			rows[j] = impl.Row{ID: -1}
		}
		for j := i + 1; j < len(result.Blocks); j++ {
			if !sameBlock(result.Blocks[j], held.Blocks[j]) {
				t.Fatalf("%s of %v returns blocks that share rows", name, original)
			}
		}
	}
	overwrite(result)
	if !isUnchanged() {
		t.Fatalf("%s of %v returns a table whose change reaches the argument", name, original)
	}
	result = f(x)
	for _, rows := range arrays {
		for j := range rows {
			rows[j] = impl.Row{ID: -1}
		}
	}
	for i := range blocks {
		blocks[i] = impl.Block{ID: -1}
	}
	if !sameTable(result, held) {
		t.Fatalf("%s of %v returns a table that changes with the argument", name, original)
	}
}

func TestChangedTablesShareNoMemory(t *testing.T) {
	changes := []impl.Change{{}, retainFrom(1), retainFrom(2), retainFrom(20), deleteOf(1), deleteOf(4), deleteOf(50), correctTo(fullRow(1)), correctTo(impl.Row{ID: 6}), correctTo(impl.Row{ID: 50})}
	for _, block := range []int{1, 2, 3, 9, 20} {
		changes = append(changes, appendTo(block, fullRow(1)), appendTo(block, fullRow(50)), appendTo(block, fullRow(98)))
	}
	tables := append(invalidTables(), greatestTable())
	for _, c := range validTableTexts {
		tables = append(tables, c.x)
	}
	for _, x := range tables {
		for _, c := range changes {
			checkOwnTables(t, "ApplyChange", x, func(x impl.Table) impl.Table {
				y, _ := impl.ApplyChange(x, c)
				return y
			})
		}
		for _, l := range [][]impl.Change{nil, changes, changes[:1], changes[3:], changes[4:5]} {
			checkOwnTables(t, "ApplyChanges", x, func(x impl.Table) impl.Table {
				y, _ := impl.ApplyChanges(x, l)
				return y
			})
		}
		checkOwnTables(t, "ChangedBlocks", x, func(x impl.Table) impl.Table {
			impl.ChangedBlocks(x, impl.Table{})
			impl.ChangedBlocks(greatestTable(), x)
			return impl.Table{}
		})
	}
}

// The rows of all blocks lie in one array, each block's directly before those of the next.
func TestBlocksOfOneArrayStayApart(t *testing.T) {
	for _, c := range changesOf([]int{1, 2, 3, 4}, []int{1, 2, 3, 4, 5, 6, 7, 8, 9}) {
		want := fullTable(3, []int{1, 3}, []int{4, 6}, []int{7, 9})
		array := fullBlock(1, 1, 3, 4, 6, 7, 9).Rows
		x := tableOf(3, impl.Block{ID: 1, Rows: array[:2]}, impl.Block{ID: 2, Rows: array[2:4]}, impl.Block{ID: 3, Rows: array[4:]})
		held := slices.Clone(array)
		got, code := impl.ApplyChange(x, c)
		want, wantCode := modelApply(want, c)
		if !sameTable(got, want) || code != wantCode || !slices.Equal(array, held) {
			t.Errorf("%v of blocks in one array gives %v, %d, want %v, %d", c, got, code, want, wantCode)
		}
		overwrite(got)
		if !slices.Equal(array, held) {
			t.Errorf("%v gives a table whose change reaches the argument", c)
		}
	}
}

func TestListsOfChangesAreNotModified(t *testing.T) {
	array := changesOf([]int{1, 2, 3}, []int{1, 2, 3, 4})
	held := slices.Clone(array)
	for n := range len(array) {
		_, codes := impl.ApplyChanges(impl.NewTable(), array[:n])
		for i := range codes[:cap(codes)] {
			codes[:cap(codes)][i] = -1
		}
		if !slices.Equal(array, held) {
			t.Fatalf("ApplyChanges changes a list of %d changes", n)
		}
	}
	x, y := tableOf(1, blockOf(1), blockOf(2)), tableOf(2)
	first := impl.ChangedBlocks(x, y)
	second := impl.ChangedBlocks(x, y)
	first[0] = 9
	if !slices.Equal(second, []int{1, 2}) || !slices.Equal(impl.ChangedBlocks(x, y), []int{1, 2}) {
		t.Errorf("two results of ChangedBlocks share memory: %v", second)
	}
}
