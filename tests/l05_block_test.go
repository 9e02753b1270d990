package tests

import (
	"math"
	"regexp"
	"slices"
	"strconv"
	"strings"
	"testing"

	"loop.example/g01927/impl"
)

// Promise 2, blocks: they can be parsed from their string format; no other strings are accepted.

// blockOf returns a block of rows with these IDs and nothing else.
func blockOf(id int, ids ...int) impl.Block {
	return impl.Block{ID: id, Rows: rowsOf(ids...)}
}

// fullRow returns a row of which no two with different IDs are alike.
func fullRow(id int) impl.Row {
	r := impl.Row{ID: id, Group: id % 4, Y: id % 9, X: id - 50}
	if id%5 == 0 {
		r.X, r.Null = 0, true
	}
	return r
}

func fullBlock(id int, ids ...int) impl.Block {
	b := impl.Block{ID: id}
	for _, n := range ids {
		b.Rows = append(b.Rows, fullRow(n))
	}
	return b
}

// sameBlock compares blocks without EqualBlocks; a nil slice and an empty one are the same.
func sameBlock(a impl.Block, b impl.Block) bool {
	return a.ID == b.ID && slices.Equal(a.Rows, b.Rows)
}

// validBlockTexts lists blocks at their limits and between them, with the text of each.
var validBlockTexts = []struct {
	b    impl.Block
	text string
}{
	{impl.Block{ID: 2, Rows: []impl.Row{{ID: 1, X: 5}, {ID: 4, Group: 1, Y: 3, Null: true}}}, "#2 1:0,0,5 4:1,3,null"},
	{impl.Block{ID: 1}, "#1"},
	{impl.Block{ID: 20, Rows: []impl.Row{}}, "#20"},
	{impl.Block{ID: 9, Rows: rowsOf(1, 2, 3)[:0]}, "#9"},
	{impl.Block{ID: 10}, "#10"},
	{impl.Block{ID: 19}, "#19"},
	{blockOf(1, 1), "#1 1:0,0,0"},
	{blockOf(20, 99), "#20 99:0,0,0"},
	{blockOf(7, 1, 99), "#7 1:0,0,0 99:0,0,0"},
	{blockOf(11, 9, 10), "#11 9:0,0,0 10:0,0,0"},
	{blockOf(3, 1, 2, 3, 4, 5, 6), "#3 1:0,0,0 2:0,0,0 3:0,0,0 4:0,0,0 5:0,0,0 6:0,0,0"},
	{impl.Block{ID: 20, Rows: []impl.Row{{ID: 99, Group: 3, Y: 8, X: -99}}}, "#20 99:3,8,-99"},
	{impl.Block{ID: 5, Rows: []impl.Row{{ID: 1, Null: true}, {ID: 2, Null: true}}}, "#5 1:0,0,null 2:0,0,null"},
	{fullBlock(20, 94, 95, 96, 97, 98, 99), "#20 94:2,4,44 95:3,5,null 96:0,6,46 97:1,7,47 98:2,8,48 99:3,0,49"},
	{fullBlock(12, 1, 5, 20, 49, 50, 51), "#12 1:1,1,-49 5:1,5,null 20:0,2,null 49:1,4,-1 50:2,5,null 51:3,6,1"},
}

// invalidBlocks returns blocks of which the ID, the number of rows, their order or one of them is not valid.
func invalidBlocks() []impl.Block {
	all := []impl.Block{{}, {Rows: []impl.Row{}}}
	for _, id := range []int{0, -1, -20, 21, 22, 1<<32 + 1, math.MaxInt, math.MinInt} {
		all = append(all, blockOf(id), blockOf(id, 1), fullBlock(id, 1, 5, 9))
	}
	for _, ids := range [][]int{
		{1, 2, 3, 4, 5, 6, 7}, {1, 2, 3, 4, 5, 6, 7, 8}, {93, 94, 95, 96, 97, 98, 99},
		{1, 1}, {99, 99}, {1, 1, 2}, {1, 2, 2}, {1, 2, 3, 4, 5, 5}, {1, 2, 3, 4, 5, 5, 6}, {1, 2, 3, 4, 5, 6, 6},
		{2, 1}, {99, 1}, {10, 9}, {1, 3, 2}, {2, 1, 3}, {6, 5, 4, 3, 2, 1}, {1, 2, 1},
		{0}, {0, 1}, {1, 0}, {-1, 1}, {100}, {99, 100}, {math.MinInt, 1}, {1, math.MaxInt},
	} {
		all = append(all, blockOf(3, ids...), fullBlock(4, ids...))
	}
	all = append(all, impl.Block{ID: 5, Rows: []impl.Row{{ID: 1, X: 1}, {ID: 1, X: 2}}})
	for _, r := range invalidRows {
		all = append(all, impl.Block{ID: 1, Rows: []impl.Row{r}})
		// Only the fields other than the ID can be at fault now, if any is.
		if r.ID = 50; !impl.IsValidRow(r) {
			all = append(all,
				impl.Block{ID: 1, Rows: []impl.Row{r, {ID: 99}}},
				impl.Block{ID: 1, Rows: []impl.Row{{ID: 1}, r, {ID: 99}}},
				impl.Block{ID: 1, Rows: []impl.Row{{ID: 1}, {ID: 2}, r}})
		}
	}
	return all
}

// subsetsOf returns every list of ascending numbers from 1 to n.
func subsetsOf(n int) [][]int {
	var all [][]int
	for bits := range 1 << n {
		var l []int
		for i := range n {
			if bits>>i&1 == 1 {
				l = append(l, i+1)
			}
		}
		all = append(all, l)
	}
	return all
}

func TestBlockLimits(t *testing.T) {
	if impl.MaxBlockRows != 6 || impl.MaxBlockID != 20 {
		t.Errorf("the limits are %d and %d", impl.MaxBlockRows, impl.MaxBlockID)
	}
}

func TestIsValidBlock(t *testing.T) {
	for _, c := range validBlockTexts {
		if !impl.IsValidBlock(c.b) {
			t.Errorf("IsValidBlock(%v) is false", c.b)
		}
	}
	for _, b := range invalidBlocks() {
		if impl.IsValidBlock(b) {
			t.Errorf("IsValidBlock(%v) is true", b)
		}
	}
}

func TestIsValidBlockOfEveryID(t *testing.T) {
	for id := -300; id <= 300; id++ {
		for _, b := range []impl.Block{blockOf(id), blockOf(id, 1), fullBlock(id, 1, 2, 3, 4, 5, 6)} {
			if want := 1 <= id && id <= 20; impl.IsValidBlock(b) != want {
				t.Errorf("IsValidBlock(%v) is %v", b, !want)
			}
		}
	}
}

func TestIsValidBlockOfEveryNumberOfRows(t *testing.T) {
	for n := 0; n <= 99; n++ {
		b := impl.Block{ID: 1}
		for id := 1; id <= n; id++ {
			b.Rows = append(b.Rows, fullRow(id))
		}
		if want := n <= 6; impl.IsValidBlock(b) != want {
			t.Errorf("IsValidBlock of %d rows is %v", n, !want)
		}
	}
}

func TestAddRow(t *testing.T) {
	cases := []struct {
		b    impl.Block
		r    impl.Row
		want impl.Block
	}{
		{blockOf(1), fullRow(1), fullBlock(1, 1)},
		{impl.Block{ID: 20, Rows: []impl.Row{}}, fullRow(99), fullBlock(20, 99)},
		{fullBlock(2, 4, 8), fullRow(3), fullBlock(2, 3, 4, 8)},
		{fullBlock(2, 4, 8), fullRow(5), fullBlock(2, 4, 5, 8)},
		{fullBlock(2, 4, 8), fullRow(9), fullBlock(2, 4, 8, 9)},
		{fullBlock(2, 9), fullRow(10), fullBlock(2, 9, 10)},
		{fullBlock(2, 10), fullRow(9), fullBlock(2, 9, 10)},
		{fullBlock(2, 1, 99), fullRow(50), fullBlock(2, 1, 50, 99)},
		{fullBlock(2, 2, 98), fullRow(1), fullBlock(2, 1, 2, 98)},
		{fullBlock(2, 2, 98), fullRow(99), fullBlock(2, 2, 98, 99)},
		{fullBlock(3, 2, 3, 4, 5, 6), fullRow(1), fullBlock(3, 1, 2, 3, 4, 5, 6)},
		{fullBlock(3, 1, 2, 4, 5, 6), fullRow(3), fullBlock(3, 1, 2, 3, 4, 5, 6)},
		{fullBlock(3, 1, 2, 3, 4, 5), fullRow(6), fullBlock(3, 1, 2, 3, 4, 5, 6)},
	}
	for _, c := range cases {
		if b, ok := impl.AddRow(c.b, c.r); !sameBlock(b, c.want) || !ok {
			t.Errorf("AddRow(%v, %v) = %v, %v, want %v", c.b, c.r, b, ok, c.want)
		}
	}
}

// refuseAdd checks that AddRow returns the block unchanged and false.
func refuseAdd(t *testing.T, b impl.Block, r impl.Row) {
	t.Helper()
	if got, ok := impl.AddRow(b, r); !sameBlock(got, b) || ok {
		t.Errorf("AddRow(%v, %v) = %v, %v, want the block unchanged and false", b, r, got, ok)
	}
}

func TestAddRowRefuses(t *testing.T) {
	for _, ids := range [][]int{{1}, {99}, {4, 8}, {1, 2, 3}, {1, 2, 3, 4, 5}, {1, 2, 3, 4, 5, 6}} {
		for _, id := range ids {
			refuseAdd(t, fullBlock(1, ids...), fullRow(id))
			refuseAdd(t, fullBlock(1, ids...), impl.Row{ID: id})
		}
	}
	for _, id := range []int{1, 15, 25, 65, 99} {
		refuseAdd(t, fullBlock(1, 10, 20, 30, 40, 50, 60), fullRow(id))
	}
	for _, r := range invalidRows {
		for _, b := range []impl.Block{blockOf(1), fullBlock(2, 2), fullBlock(20, 1, 99), fullBlock(3, 1, 2, 3, 4, 5, 6), {}} {
			refuseAdd(t, b, r)
		}
	}
	for _, b := range invalidBlocks() {
		for _, id := range []int{1, 2, 7, 50, 98, 99} {
			refuseAdd(t, b, fullRow(id))
		}
	}
}

func TestAddRowToEveryBlock(t *testing.T) {
	for _, ids := range subsetsOf(7) {
		for id := 0; id <= 9; id++ {
			b := fullBlock(6, ids...)
			got, ok := impl.AddRow(b, fullRow(id))
			want, valid := b, id > 0 && len(ids) < 6 && !slices.Contains(ids, id)
			if valid {
				more := append(slices.Clone(ids), id)
				slices.Sort(more)
				want = fullBlock(6, more...)
			}
			if !sameBlock(got, want) || ok != valid {
				t.Errorf("AddRow(%v, row %d) = %v, %v, want %v, %v", b, id, got, ok, want, valid)
			}
		}
	}
}

func TestAddRowInAnyOrder(t *testing.T) {
	want := fullBlock(8, 1, 25, 50, 60, 98, 99)
	for _, ids := range [][]int{{1, 25, 50, 60, 98, 99}, {99, 98, 60, 50, 25, 1}, {50, 1, 99, 25, 98, 60}, {98, 99, 1, 25, 60, 50}} {
		b := impl.Block{ID: 8}
		ok := true
		for _, id := range ids {
			if b, ok = impl.AddRow(b, fullRow(id)); !ok || !impl.IsValidBlock(b) {
				t.Fatalf("row %d of %v is refused", id, ids)
			}
		}
		if !sameBlock(b, want) {
			t.Errorf("the rows %v added give %v, want %v", ids, b, want)
		}
	}
}

func TestRemoveRow(t *testing.T) {
	cases := []struct {
		b    impl.Block
		id   int
		want impl.Block
	}{
		{fullBlock(1, 1), 1, blockOf(1)},
		{fullBlock(20, 99), 99, blockOf(20)},
		{fullBlock(2, 4, 8), 4, fullBlock(2, 8)},
		{fullBlock(2, 4, 8), 8, fullBlock(2, 4)},
		{fullBlock(2, 3, 5, 9), 3, fullBlock(2, 5, 9)},
		{fullBlock(2, 3, 5, 9), 5, fullBlock(2, 3, 9)},
		{fullBlock(2, 3, 5, 9), 9, fullBlock(2, 3, 5)},
		{fullBlock(3, 1, 2, 3, 4, 5, 6), 1, fullBlock(3, 2, 3, 4, 5, 6)},
		{fullBlock(3, 1, 2, 3, 4, 5, 6), 4, fullBlock(3, 1, 2, 3, 5, 6)},
		{fullBlock(3, 1, 2, 3, 4, 5, 6), 6, fullBlock(3, 1, 2, 3, 4, 5)},
	}
	for _, c := range cases {
		if b, ok := impl.RemoveRow(c.b, c.id); !sameBlock(b, c.want) || !ok {
			t.Errorf("RemoveRow(%v, %d) = %v, %v, want %v", c.b, c.id, b, ok, c.want)
		}
	}
}

// refuseRemove checks that RemoveRow returns the block unchanged and false.
func refuseRemove(t *testing.T, b impl.Block, id int) {
	t.Helper()
	if got, ok := impl.RemoveRow(b, id); !sameBlock(got, b) || ok {
		t.Errorf("RemoveRow(%v, %d) = %v, %v, want the block unchanged and false", b, id, got, ok)
	}
}

func TestRemoveRowRefuses(t *testing.T) {
	for _, b := range []impl.Block{blockOf(1), {ID: 20, Rows: []impl.Row{}}, fullBlock(2, 50), fullBlock(2, 4, 8), fullBlock(3, 10, 20, 30, 40, 50, 60)} {
		for _, id := range []int{0, -1, -4, 1, 3, 5, 7, 9, 15, 49, 51, 61, 99, 100, 1<<32 + 4, math.MaxInt, math.MinInt} {
			refuseRemove(t, b, id)
		}
	}
	// The second row lies behind the rows of the block, in the unused capacity.
	refuseRemove(t, impl.Block{ID: 1, Rows: rowsOf(4, 8)[:1]}, 8)
	for _, b := range invalidBlocks() {
		for _, id := range []int{0, 1, 2, 7, 50, 98, 99, 100} {
			refuseRemove(t, b, id)
		}
		for _, r := range b.Rows {
			refuseRemove(t, b, r.ID)
		}
	}
}

func TestRemoveRowFromEveryBlock(t *testing.T) {
	for _, ids := range subsetsOf(7) {
		for id := 0; id <= 9; id++ {
			b := fullBlock(6, ids...)
			got, ok := impl.RemoveRow(b, id)
			want, valid := b, len(ids) <= 6 && slices.Contains(ids, id)
			if valid {
				want = fullBlock(6, slices.DeleteFunc(slices.Clone(ids), func(n int) bool { return n == id })...)
			}
			if !sameBlock(got, want) || ok != valid {
				t.Errorf("RemoveRow(%v, %d) = %v, %v, want %v, %v", b, id, got, ok, want, valid)
			}
		}
	}
}

func TestRemoveRowUndoesAddRow(t *testing.T) {
	for _, ids := range subsetsOf(5) {
		for id := 1; id <= 6; id++ {
			b := fullBlock(6, ids...)
			added, ok := impl.AddRow(b, fullRow(id))
			if !ok {
				continue
			}
			if got, ok := impl.RemoveRow(added, id); !sameBlock(got, b) || !ok {
				t.Errorf("row %d added to %v and removed gives %v, %v", id, b, got, ok)
			}
		}
	}
}

func TestEqualBlocks(t *testing.T) {
	base := fullBlock(2, 1, 5, 9)
	same := [][2]impl.Block{
		{base, fullBlock(2, 1, 5, 9)}, {{}, {}}, {{}, {Rows: []impl.Row{}}}, {blockOf(1), {ID: 1, Rows: []impl.Row{}}},
		{blockOf(1), {ID: 1, Rows: rowsOf(1, 2)[:0]}}, {base, {ID: 2, Rows: fullBlock(2, 1, 5, 9, 10).Rows[:3]}},
	}
	for _, c := range same {
		if !impl.EqualBlocks(c[0], c[1]) || !impl.EqualBlocks(c[1], c[0]) {
			t.Errorf("EqualBlocks(%v, %v) is false", c[0], c[1])
		}
	}
	others := []impl.Block{
		{}, {ID: 2}, {Rows: base.Rows}, fullBlock(3, 1, 5, 9), fullBlock(-2, 1, 5, 9), fullBlock(1<<32+2, 1, 5, 9),
		fullBlock(2, 1, 5), fullBlock(2, 5, 9), fullBlock(2, 1, 9), fullBlock(2, 1, 5, 9, 10), fullBlock(2, 1, 5, 9, 9), fullBlock(2, 9, 5, 1), fullBlock(2, 1, 9, 5),
	}
	for i := range base.Rows {
		for _, change := range []func(*impl.Row){
			func(r *impl.Row) { r.ID++ }, func(r *impl.Row) { r.Group++ }, func(r *impl.Row) { r.Y++ }, func(r *impl.Row) { r.X++ }, func(r *impl.Row) { r.X -= 1 << 32 }, func(r *impl.Row) { r.Null = !r.Null },
		} {
			b := fullBlock(2, 1, 5, 9)
			change(&b.Rows[i])
			others = append(others, b)
		}
	}
	for _, b := range others {
		if impl.EqualBlocks(base, b) || impl.EqualBlocks(b, base) {
			t.Errorf("EqualBlocks(%v, %v) is true", base, b)
		}
	}
}

func TestEqualBlocksOfInvalidOnes(t *testing.T) {
	all := invalidBlocks()
	for _, c := range validBlockTexts {
		all = append(all, c.b)
	}
	for i, a := range all {
		if !impl.EqualBlocks(a, impl.Block{ID: a.ID, Rows: slices.Clone(a.Rows)}) {
			t.Errorf("EqualBlocks of %v and its copy is false", a)
		}
		for _, b := range all[i:] {
			want := sameBlock(a, b)
			if impl.EqualBlocks(a, b) != want || impl.EqualBlocks(b, a) != want {
				t.Errorf("EqualBlocks(%v, %v) is %v", a, b, !want)
			}
		}
	}
}

func TestFormatBlock(t *testing.T) {
	for _, c := range validBlockTexts {
		if s := impl.FormatBlock(c.b); s != c.text {
			t.Errorf("FormatBlock(%v) = %q, want %q", c.b, s, c.text)
		}
	}
	for _, b := range invalidBlocks() {
		if s := impl.FormatBlock(b); s != "" {
			t.Errorf("FormatBlock(%v) = %q, want an empty string", b, s)
		}
	}
}

func TestParseBlock(t *testing.T) {
	for _, c := range validBlockTexts {
		if b, ok := impl.ParseBlock(c.text); !sameBlock(b, c.b) || !ok {
			t.Errorf("ParseBlock(%q) = %v, %v, want %v", c.text, b, ok, c.b)
		}
	}
}

func TestEveryBlockIsParsedFromItsFormat(t *testing.T) {
	for id := 1; id <= 20; id++ {
		for _, ids := range subsetsOf(7) {
			if len(ids) > 6 {
				continue
			}
			// Far apart, the IDs of the rows have one and two digits.
			for i := range ids {
				ids[i] *= ids[i] + id%7
			}
			b := fullBlock(id, ids...)
			want := "#" + strconv.Itoa(id)
			for _, r := range b.Rows {
				want += " " + impl.FormatRow(r)
			}
			s := impl.FormatBlock(b)
			if got, ok := impl.ParseBlock(s); s != want || !sameBlock(got, b) || !ok {
				t.Fatalf("FormatBlock(%v) = %q, want %q, and ParseBlock returns %v, %v", b, s, want, got, ok)
			}
		}
	}
}

var blockFormat = regexp.MustCompile(`^#([1-9]|1[0-9]|20)((?: [^ ]+){0,6})$`)

// readBlock reads a block by its pattern and those of its rows alone.
func readBlock(s string) (impl.Block, bool) {
	m := blockFormat.FindStringSubmatch(s)
	if m == nil {
		return impl.Block{}, false
	}
	var b impl.Block
	b.ID, _ = strconv.Atoi(m[1])
	last := 0
	for _, text := range strings.Split(m[2], " ")[1:] {
		r, ok := readRow(text)
		if !ok || r.ID <= last {
			return impl.Block{}, false
		}
		last = r.ID
		b.Rows = append(b.Rows, r)
	}
	return b, true
}

func checkParseBlock(t *testing.T, s string) bool {
	t.Helper()
	return checkParse(t, s, sameBlock, readBlock, impl.ParseBlock, impl.FormatBlock)
}

func TestParseBlockOfEveryShortString(t *testing.T) {
	accepted := 0
	for _, s := range shortStrings("#0129 -:", 5) {
		if checkParseBlock(t, s) {
			accepted++
		}
	}
	// The IDs 1, 2, 9, 10, 11, 12, 19 and 20, without rows.
	if accepted != 8 {
		t.Errorf("%d strings are accepted, want 8", accepted)
	}
}

func TestParseBlockOfEveryID(t *testing.T) {
	for id := -300; id <= 300; id++ {
		for _, rest := range []string{"", " 1:0,0,5", " 1:0,0,5 2:0,0,null"} {
			s := "#" + strconv.Itoa(id) + rest
			if checkParseBlock(t, s) != (1 <= id && id <= 20) {
				t.Errorf("ParseBlock(%q) is wrong", s)
			}
		}
	}
}

// eachSequence calls f with every sequence of one to n parts.
func eachSequence(parts []string, separator string, n int, f func(string)) {
	texts := []string{""}
	for range n {
		var longer []string
		for _, s := range texts {
			for _, p := range parts {
				f(s + p)
				longer = append(longer, s+p+separator)
			}
		}
		texts = longer
	}
}

func TestParseBlockOfEverySequenceOfWords(t *testing.T) {
	parts := []string{"#1", "#20", "1", "", "1:0,0,5", "2:3,8,null", "10:0,0,-9", "3:4,0,5"}
	eachSequence(parts, " ", 4, func(s string) { checkParseBlock(t, s) })
}

func TestParseBlockOfEveryNumberOfRows(t *testing.T) {
	s := "#1"
	for id := 1; id <= 99; id++ {
		s += " " + impl.FormatRow(fullRow(id))
		if checkParseBlock(t, s) != (id <= 6) {
			t.Errorf("ParseBlock of %d rows is wrong", id)
		}
		if checkParseBlock(t, s+" ") || checkParseBlock(t, s+" x") {
			t.Errorf("ParseBlock of %d rows and another word is true", id)
		}
	}
}

func TestParseBlockOfEveryChangedByte(t *testing.T) {
	for _, c := range validBlockTexts {
		eachChangedText(c.text, func(s string) { checkParseBlock(t, s) })
	}
}

func TestParseBlockRefuses(t *testing.T) {
	six := " 1:0,0,0 2:0,0,0 3:0,0,0 4:0,0,0 5:0,0,0 6:0,0,0"
	for _, s := range []string{
		"", " ", "#", "##", "1", "2 1:0,0,5", "# 1", "# 1:0,0,5", "#1#", "##1", "#1 #2", "#1#2", "1#", "＃1", "#x", "#one", "#1x", "#x1",
		"#0", "#21", "#-1", "#-0", "#01", "#+1", "#1.0", "#1/1", "#001", "#100", "#99", "#1_0", "#0x1", "#1e1", "#4294967297", "#18446744073709551617", "#" + strings.Repeat("1", 1000),
		" #1", "#1 ", "#1  ", "#1  1:0,0,5", " #1 1:0,0,5", "#1 1:0,0,5 ", "#1 1:0,0,5  2:0,0,5", "#1\t1:0,0,5", "#1\n1:0,0,5", "#1\n", "\n#1", "#1\x00", "\x00#1", "#1 1:0,0,5\n", "#1\u00a01:0,0,5",
		"#1,1:0,0,5", "#1;1:0,0,5", "#11:0,0,5", "#1 1:0,0,52:0,0,5", "#1 1:0,0,5,2:0,0,5", "#1 1:0,0,5;2:0,0,5", "#1 1:0,0,5;", "#1:0,0,5", "1:0,0,5", "1:0,0,5 #1",
		"#1 1:0,0,5 1:0,0,5", "#1 1:0,0,5 1:0,0,6", "#1 2:0,0,5 1:0,0,5", "#1 10:0,0,5 9:0,0,5", "#1 1:0,0,5 3:0,0,5 2:0,0,5", "#1 1:0,0,5 2:0,0,5 2:0,0,5",
		"#1" + six + " 7:0,0,0", "#1" + six + " 6:0,0,0", "#1" + six + " ", "#1" + six + " x", "#1" + six + " 7:0,0,0 8:0,0,0", "#0" + six, "#21" + six,
		"#1 0:0,0,5", "#1 100:0,0,5", "#1 1:4,0,5", "#1 1:0,9,5", "#1 1:0,0,100", "#1 1:0,0,-0", "#1 01:0,0,5", "#1 1:0,0,NULL", "#1 null", "#1 none", "#1 x", "#1 1", "#1 1:0,0", "#1 1:0,0,5 x", "#1 x 1:0,0,5", "#1 1:0,0,5 2:0,0",
		"#0 1:0,0,5", "#21 1:0,0,5", "v1", "v1;#1", "#1;#2", "append 1 1:0,0,5",
		strings.Repeat("#", 1000), strings.Repeat(" ", 1000), strings.Repeat("#1 ", 1000), "#1" + strings.Repeat(" ", 1000), "#1" + strings.Repeat(" 1:0,0,5", 1000),
	} {
		if b, ok := impl.ParseBlock(s); b.ID != 0 || len(b.Rows) != 0 || ok {
			t.Errorf("ParseBlock(%q) = %v, %v, want the zero value and false", s, b, ok)
		}
	}
}

// checkOwnMemory calls f with the block in a longer array and checks that neither the call nor a change of its result changes the array, and that a change of the array does not change the result.
func checkOwnMemory(t *testing.T, name string, b impl.Block, f func(impl.Block) impl.Block) {
	t.Helper()
	array := make([]impl.Row, len(b.Rows)+10)
	for i := range array {
		array[i] = fullRow(99 - i)
	}
	copy(array[1:], b.Rows)
	before := slices.Clone(array)
	b.Rows = array[1 : 1+len(b.Rows)]
	result := f(b)
	if !slices.Equal(array, before) {
		t.Errorf("%s changes %v to %v", name, before, array)
	}
	held := slices.Clone(result.Rows)
	for i := range array {
		array[i] = impl.Row{ID: -1}
	}
	if !slices.Equal(result.Rows, held) {
		t.Errorf("%s returns rows that change with the argument", name)
	}
	copy(array, before)
	all := result.Rows[:cap(result.Rows)]
	for i := range all {
		all[i] = impl.Row{ID: -2}
	}
	if !slices.Equal(array, before) {
		t.Errorf("%s returns rows whose change reaches the argument", name)
	}
}

func TestBlocksShareNoMemory(t *testing.T) {
	blocks := invalidBlocks()
	for _, ids := range subsetsOf(7) {
		blocks = append(blocks, fullBlock(2, ids...))
	}
	rows := append([]impl.Row{fullRow(98), fullRow(99)}, invalidRows[:4]...)
	for id := 1; id <= 8; id++ {
		rows = append(rows, fullRow(id))
	}
	for _, b := range blocks {
		for _, r := range rows {
			checkOwnMemory(t, "AddRow", b, func(b impl.Block) impl.Block {
				added, _ := impl.AddRow(b, r)
				return added
			})
			checkOwnMemory(t, "RemoveRow", b, func(b impl.Block) impl.Block {
				less, _ := impl.RemoveRow(b, r.ID)
				return less
			})
		}
		checkOwnMemory(t, "a function without a block as its result", b, func(b impl.Block) impl.Block {
			impl.IsValidBlock(b)
			impl.EqualBlocks(b, b)
			impl.FormatBlock(b)
			return impl.Block{}
		})
	}
}

func TestResultsOfOneBlockShareNoMemory(t *testing.T) {
	b := impl.Block{ID: 1, Rows: append(make([]impl.Row, 0, 20), fullBlock(1, 2, 4, 6).Rows...)}
	var results []impl.Block
	for _, id := range []int{1, 3, 5, 7, 8, 4, 0} {
		added, _ := impl.AddRow(b, fullRow(id))
		less, _ := impl.RemoveRow(b, id+1)
		results = append(results, added, less)
	}
	for i, x := range results {
		held := make([][]impl.Row, len(results))
		for j, y := range results {
			held[j] = slices.Clone(y.Rows)
		}
		for k := range x.Rows[:cap(x.Rows)] {
			x.Rows[:cap(x.Rows)][k] = impl.Row{ID: -i}
		}
		for j, y := range results {
			if i != j && !slices.Equal(y.Rows, held[j]) {
				t.Errorf("a change of result %d reaches result %d", i, j)
			}
		}
	}
	if want := fullBlock(1, 2, 4, 6); !sameBlock(b, want) {
		t.Errorf("the argument became %v", b)
	}
}

func TestParsedBlocksShareNoMemory(t *testing.T) {
	for _, c := range validBlockTexts {
		x, _ := impl.ParseBlock(c.text)
		for i := range x.Rows {
			x.Rows[i] = impl.Row{}
		}
		if y, ok := impl.ParseBlock(c.text); !sameBlock(y, c.b) || !ok {
			t.Errorf("ParseBlock(%q) a second time = %v, %v", c.text, y, ok)
		}
	}
}
