package tests

import (
	"fmt"
	"math"
	"regexp"
	"slices"
	"strconv"
	"strings"
	"testing"

	"loop.example/g01927/impl"
)

// Promise 2, rows: they can be parsed from their string format; no other strings are accepted.

// validRowTexts lists rows at their limits and between them, with the text of each.
var validRowTexts = []struct {
	r    impl.Row
	text string
}{
	{impl.Row{ID: 3, Group: 1, Y: 8, X: -5}, "3:1,8,-5"},
	{impl.Row{ID: 1}, "1:0,0,0"},
	{impl.Row{ID: 1, Null: true}, "1:0,0,null"},
	{impl.Row{ID: 99, Null: true}, "99:0,0,null"},
	{impl.Row{ID: 99, Group: 3, Y: 8, X: 99}, "99:3,8,99"},
	{impl.Row{ID: 99, Group: 3, Y: 8, X: -99}, "99:3,8,-99"},
	{impl.Row{ID: 99, Group: 3, Y: 8, Null: true}, "99:3,8,null"},
	{impl.Row{ID: 1, Group: 3}, "1:3,0,0"},
	{impl.Row{ID: 1, Y: 8}, "1:0,8,0"},
	{impl.Row{ID: 1, X: 99}, "1:0,0,99"},
	{impl.Row{ID: 1, X: -99}, "1:0,0,-99"},
	{impl.Row{ID: 1, X: 1}, "1:0,0,1"},
	{impl.Row{ID: 1, X: -1}, "1:0,0,-1"},
	{impl.Row{ID: 42, Group: 2, Y: 5, X: 10}, "42:2,5,10"},
	{impl.Row{ID: 10, Group: 1, Y: 4, X: -10}, "10:1,4,-10"},
	{impl.Row{ID: 4, Group: 1, Y: 3, Null: true}, "4:1,3,null"},
}

// invalidRows lists the zero value and rows of which one field is beyond its limits.
var invalidRows = []impl.Row{
	{}, {Null: true}, {Group: 1, Y: 1, X: 1},
	{ID: -1}, {ID: 100}, {ID: -99}, {ID: math.MaxInt}, {ID: math.MinInt}, {ID: 1<<32 + 1},
	{ID: 100, Group: 3, Y: 8, X: 99}, {ID: 100, Null: true}, {ID: -1, Null: true},
	{ID: 1, Group: -1}, {ID: 1, Group: 4}, {ID: 1, Group: math.MaxInt}, {ID: 1, Group: math.MinInt}, {ID: 1, Group: 4, Null: true}, {ID: 1, Group: -1, Null: true},
	{ID: 1, Y: -1}, {ID: 1, Y: 9}, {ID: 1, Y: math.MaxInt}, {ID: 1, Y: math.MinInt}, {ID: 1, Y: 9, Null: true}, {ID: 1, Y: -1, Null: true},
	{ID: 1, X: 100}, {ID: 1, X: -100}, {ID: 1, X: math.MaxInt}, {ID: 1, X: math.MinInt}, {ID: 1, X: 1 << 32},
	{ID: 1, X: 1, Null: true}, {ID: 1, X: -1, Null: true}, {ID: 1, X: 99, Null: true}, {ID: 1, X: 100, Null: true}, {ID: 1, X: math.MinInt, Null: true},
}

func rowsOf(ids ...int) []impl.Row {
	var l []impl.Row
	for _, id := range ids {
		l = append(l, impl.Row{ID: id})
	}
	return l
}

func TestRowLimits(t *testing.T) {
	if impl.MaxRowID != 99 || impl.MaxGroup != 3 || impl.MaxX != 99 || impl.MaxY != 8 {
		t.Errorf("the limits are %d, %d, %d and %d", impl.MaxRowID, impl.MaxGroup, impl.MaxX, impl.MaxY)
	}
}

func TestIsValidRow(t *testing.T) {
	for _, c := range validRowTexts {
		if !impl.IsValidRow(c.r) {
			t.Errorf("IsValidRow(%v) is false", c.r)
		}
	}
	for _, r := range invalidRows {
		if impl.IsValidRow(r) {
			t.Errorf("IsValidRow(%v) is true", r)
		}
	}
}

func TestIsValidRowOfEveryField(t *testing.T) {
	for n := -300; n <= 300; n++ {
		cases := []struct {
			r    impl.Row
			want bool
		}{
			{impl.Row{ID: n, Group: 1, Y: 1, X: 1}, 1 <= n && n <= 99},
			{impl.Row{ID: 1, Group: n, Y: 1, X: 1}, 0 <= n && n <= 3},
			{impl.Row{ID: 1, Group: 1, Y: n, X: 1}, 0 <= n && n <= 8},
			{impl.Row{ID: 1, Group: 1, Y: 1, X: n}, -99 <= n && n <= 99},
			{impl.Row{ID: n, Group: 1, Y: 1, Null: true}, 1 <= n && n <= 99},
			{impl.Row{ID: 1, Group: n, Y: 1, Null: true}, 0 <= n && n <= 3},
			{impl.Row{ID: 1, Group: 1, Y: n, Null: true}, 0 <= n && n <= 8},
			{impl.Row{ID: 1, Group: 1, Y: 1, X: n, Null: true}, n == 0},
		}
		for _, c := range cases {
			if impl.IsValidRow(c.r) != c.want {
				t.Errorf("IsValidRow(%v) is %v", c.r, !c.want)
			}
			if s := impl.FormatRow(c.r); (s != "") != c.want {
				t.Errorf("FormatRow(%v) = %q", c.r, s)
			}
		}
	}
}

func TestFormatRow(t *testing.T) {
	for _, c := range validRowTexts {
		if s := impl.FormatRow(c.r); s != c.text {
			t.Errorf("FormatRow(%v) = %q, want %q", c.r, s, c.text)
		}
	}
	for _, r := range invalidRows {
		if s := impl.FormatRow(r); s != "" {
			t.Errorf("FormatRow(%v) = %q, want an empty string", r, s)
		}
	}
}

func TestParseRow(t *testing.T) {
	for _, c := range validRowTexts {
		if r, ok := impl.ParseRow(c.text); r != c.r || !ok {
			t.Errorf("ParseRow(%q) = %v, %v, want %v", c.text, r, ok, c.r)
		}
	}
}

// eachRow calls f with every valid row whose ID is in the list.
func eachRow(ids []int, f func(impl.Row)) {
	for _, id := range ids {
		for group := 0; group <= 3; group++ {
			for y := 0; y <= 8; y++ {
				f(impl.Row{ID: id, Group: group, Y: y, Null: true})
				for x := -99; x <= 99; x++ {
					f(impl.Row{ID: id, Group: group, Y: y, X: x})
				}
			}
		}
	}
}

func TestEveryRowIsParsedFromItsFormat(t *testing.T) {
	ids := []int{1, 2, 9, 10, 11, 42, 90, 98, 99}
	eachRow(ids, func(r impl.Row) {
		value := strconv.Itoa(r.X)
		if r.Null {
			value = "null"
		}
		want := fmt.Sprintf("%d:%d,%d,%s", r.ID, r.Group, r.Y, value)
		s := impl.FormatRow(r)
		if got, ok := impl.ParseRow(s); s != want || got != r || !ok || !impl.IsValidRow(r) {
			t.Fatalf("FormatRow(%v) = %q, want %q, and ParseRow returns %v, %v", r, s, want, got, ok)
		}
	})
}

var rowFormat = regexp.MustCompile(`^([1-9][0-9]?):([0-3]),([0-8]),(0|-?[1-9][0-9]?|null)$`)

// readRow reads a row by its pattern alone.
func readRow(s string) (impl.Row, bool) {
	m := rowFormat.FindStringSubmatch(s)
	if m == nil {
		return impl.Row{}, false
	}
	var n [4]int
	for i := range n {
		n[i], _ = strconv.Atoi(m[i+1])
	}
	return impl.Row{ID: n[0], Group: n[1], Y: n[2], X: n[3], Null: m[4] == "null"}, true
}

// checkParse compares a parser with a reader that knows the format in a way of its own, and tells whether the text is one.
func checkParse[T any](t *testing.T, s string, same func(T, T) bool, read func(string) (T, bool), parse func(string) (T, bool), format func(T) string) bool {
	t.Helper()
	want, valid := read(s)
	x, ok := parse(s)
	if !same(x, want) || ok != valid {
		t.Fatalf("%q is parsed as %v, %v, want %v, %v", s, x, ok, want, valid)
	}
	if ok && format(x) != s {
		t.Fatalf("%q is parsed as %v, which has the text %q", s, x, format(x))
	}
	return valid
}

func equal[T comparable](a T, b T) bool { return a == b }

func checkParseRow(t *testing.T, s string) bool {
	t.Helper()
	return checkParse(t, s, equal[impl.Row], readRow, impl.ParseRow, impl.FormatRow)
}

func TestParseRowOfEveryShortString(t *testing.T) {
	accepted := 0
	for _, s := range shortStrings("01:,-", 8) {
		if checkParseRow(t, s) {
			accepted++
		}
	}
	// Seven bytes: 1 ID, 2 groups, 2 values of Y and 2 of X. Eight: 2 other IDs, or one of 3 other values of X.
	if want := 8 + 16 + 12; accepted != want {
		t.Errorf("%d strings are accepted, want %d", accepted, want)
	}
}

func TestParseRowOfEveryFieldText(t *testing.T) {
	texts := append(shortStrings("019-nul", 4), "null", "nul", "nulll", "NULL", "Null", "nil", "none", "null0", "0null", "-null", "empty")
	for _, text := range texts {
		for _, s := range []string{text + ":1,1,1", "1:" + text + ",1,1", "1:1," + text + ",1", "1:1,1," + text, text} {
			checkParseRow(t, s)
		}
	}
}

// eachChangedText calls f with s, each of its beginnings and ends, and s with one byte inserted, replaced or left out.
func eachChangedText(s string, f func(string)) {
	for i := 0; i <= len(s); i++ {
		before, after := s[:i], s[i:]
		f(before)
		f(after)
		for b := range 256 {
			other := string([]byte{byte(b)})
			f(before + other + after)
			if after != "" {
				f(before + other + after[1:])
			}
		}
		if after != "" {
			f(before + after[1:])
		}
	}
}

func TestParseRowOfEveryChangedByte(t *testing.T) {
	for _, c := range validRowTexts {
		eachChangedText(c.text, func(s string) { checkParseRow(t, s) })
	}
}

func TestParseRowRefuses(t *testing.T) {
	for _, s := range []string{
		"", " ", "1", ":", ",", ",,", ":,,", "1:", "1:0", "1:0,", "1:0,0", "1:0,0,", ":0,0,5", "1:,0,5", "1:0,,5", "1,0,0,5", "1:0:0,5", "1:0,0:5", "1:0,0,0,",
		"1:0,0,5,6", "1:0,0,5,", "1:0,0,,5", "1::0,0,5", "#1:0,0,5", "1:0,0,5;", "1;0,0,5", "1:0;0;5",
		"0:0,0,5", "-1:0,0,5", "100:0,0,5", "01:0,0,5", "1:4,0,5", "1:-1,0,5", "1:00,0,5", "1:0,9,5", "1:0,-1,5", "1:0,00,5", "1:0,10,5",
		"1:0,0,100", "1:0,0,-100", "1:0,0,-0", "1:0,0,00", "1:0,0,05", "1:0,0,+5", "1:0,0,--5", "1:0,0,5.0", "1:0,0,1/2", "1:0,0,1e1", "1:0,0,0x1",
		"1:0,0,NULL", "1:0,0,Null", "1:0,0,nul", "1:0,0,nulll", "1:0,0,null,", "1:0,0,null,5", "1:0,0,5null", "1:0,0,-null", "1:0,0,\"null\"", "1:0,0,nil", "1:0,0,none",
		"null:0,0,5", "1:null,0,5", "1:0,null,5", "null", "null:null,null,null", "0:0,0,null", "100:0,0,null", "1:4,0,null", "1:0,9,null",
		" 1:0,0,5", "1:0,0,5 ", "1 :0,0,5", "1: 0,0,5", "1:0, 0,5", "1:0,0, 5", "1:0,0,null ", "1:0,0, null", "1:0,0,5\n", "\n1:0,0,5", "1:0,0,5\x00", "\x001:0,0,5", "1:0,0,null\x00",
		"1:0,0,\xff", "1:0,0,٥", "1：0,0,5", "1:0，0,5", "4294967297:0,0,5", "18446744073709551617:0,0,5", "1:0,0,18446744073709551617", "1:4294967296,0,5",
		"1:0,0,5 2:0,0,5", "1:0,0,52:0,0,5", strings.Repeat(":", 1000), strings.Repeat(",", 1000), "1:0,0," + strings.Repeat("9", 1000), strings.Repeat("1:0,0,5", 100),
	} {
		if r, ok := impl.ParseRow(s); r != (impl.Row{}) || ok {
			t.Errorf("ParseRow(%q) = %v, %v, want the zero value and false", s, r, ok)
		}
	}
}

func TestAreRows(t *testing.T) {
	whole := rowsOf()
	for id := 1; id <= 99; id++ {
		whole = append(whole, impl.Row{ID: id, Group: id % 4, Y: id % 9, X: id})
	}
	for _, l := range [][]impl.Row{
		nil, {}, whole[:0], rowsOf(1), rowsOf(99), rowsOf(1, 2), rowsOf(1, 99), rowsOf(2, 9, 10, 11), rowsOf(98, 99), whole,
		{{ID: 1, Null: true}}, {{ID: 1, Null: true}, {ID: 2, Null: true}}, {{ID: 3, Group: 1, Y: 8, X: -5}, {ID: 99, Null: true}},
		{{ID: 1, Group: 3, Y: 8, X: 99}, {ID: 2}},
	} {
		if !impl.AreRows(l) {
			t.Errorf("AreRows(%v) is false", l)
		}
	}
	for _, l := range [][]impl.Row{
		rowsOf(1, 1), rowsOf(99, 99), rowsOf(2, 1), rowsOf(99, 1), rowsOf(10, 9), rowsOf(1, 2, 2), rowsOf(1, 1, 2), rowsOf(1, 3, 2), rowsOf(2, 1, 3), rowsOf(1, 2, 1), rowsOf(3, 2, 1),
		{{ID: 1, X: 1}, {ID: 1, X: 2}}, {{ID: 1, Group: 0}, {ID: 1, Group: 1}}, {{ID: 1}, {ID: 1, Null: true}},
		rowsOf(0), rowsOf(0, 1), rowsOf(-1, 1), rowsOf(99, 100), rowsOf(math.MinInt, 1), rowsOf(1, math.MaxInt),
		append(whole[:99:99], impl.Row{ID: 100}), append(whole[:98:98], impl.Row{ID: 98}),
	} {
		if impl.AreRows(l) {
			t.Errorf("AreRows(%v) is true", l)
		}
	}
}

func TestAreRowsRefusesInvalidRows(t *testing.T) {
	for _, r := range invalidRows {
		for _, l := range [][]impl.Row{{r}, {r, {ID: 99}}, {{ID: 1}, {ID: 2}, r}, {{ID: 1}, r, {ID: 99}}} {
			if impl.AreRows(l) {
				t.Errorf("AreRows(%v) is true", l)
			}
		}
		// Any ID that follows 1 keeps the order, so that only the other fields can be at fault.
		r.ID = 50
		if l := []impl.Row{{ID: 1}, r, {ID: 99}}; impl.AreRows(l) != impl.IsValidRow(r) {
			t.Errorf("AreRows(%v) is %v", l, impl.AreRows(l))
		}
	}
}

func TestFindRow(t *testing.T) {
	cases := []struct {
		l    []impl.Row
		id   int
		want int
	}{
		{nil, 1, -1}, {nil, 0, -1}, {nil, -1, -1}, {[]impl.Row{}, 1, -1}, {rowsOf(1, 2)[:0], 1, -1},
		{rowsOf(1), 1, 0}, {rowsOf(1), 2, -1}, {rowsOf(1), 0, -1},
		{rowsOf(3, 99), 99, 1}, {rowsOf(3, 99), 3, 0}, {rowsOf(3, 99), 4, -1}, {rowsOf(3, 99), 100, -1}, {rowsOf(3, 99), -3, -1},
		{rowsOf(1, 5, 7), 7, 2}, {rowsOf(1, 5, 7), 5, 1}, {rowsOf(1, 5, 7), 1, 0}, {rowsOf(1, 5, 7), 6, -1}, {rowsOf(1, 5, 7), 8, -1},
		{rowsOf(7, 5, 1), 1, 2}, {rowsOf(7, 5, 1), 7, 0}, {rowsOf(7, 5, 1), 5, 1}, {rowsOf(7, 5, 1), 6, -1},
		{rowsOf(2, 5, 5, 5), 5, 1}, {rowsOf(5, 2, 5), 5, 0}, {rowsOf(5, 5), 5, 0}, {rowsOf(9, 2, 5, 2, 9), 2, 1},
		{rowsOf(0), 0, 0}, {rowsOf(1, 0, 0), 0, 1}, {rowsOf(4, -3), -3, 1}, {rowsOf(4, 100), 100, 1},
		{rowsOf(math.MaxInt, math.MinInt), math.MinInt, 1}, {rowsOf(math.MaxInt, math.MinInt), math.MaxInt, 0}, {rowsOf(1), 1<<32 + 1, -1},
		{[]impl.Row{{ID: 4, Group: 9, Y: -1, X: 1000, Null: true}, {ID: 4}}, 4, 0}, {[]impl.Row{{Group: 2, Y: 2, X: 2}}, 2, -1},
	}
	for _, c := range cases {
		if got := impl.FindRow(c.l, c.id); got != c.want {
			t.Errorf("FindRow(%v, %d) = %d, want %d", c.l, c.id, got, c.want)
		}
	}
	many := rowsOf()
	for id := 1; id <= 1000; id++ {
		many = append(many, impl.Row{ID: id})
	}
	for id := 1; id <= 1000; id++ {
		if got := impl.FindRow(many, id); got != id-1 {
			t.Errorf("FindRow of %d rows for %d = %d", len(many), id, got)
		}
	}
}

func TestListsOfRowsAreNotModified(t *testing.T) {
	for _, l := range [][]impl.Row{rowsOf(1, 2, 3, 9), rowsOf(9, 3, 3, 1), invalidRows} {
		// The unused capacity of the list must not change either.
		before := slices.Clone(l)
		part := l[:2]
		impl.AreRows(part)
		impl.AreRows(l)
		impl.FindRow(part, 9)
		impl.FindRow(l, 9)
		if !slices.Equal(l, before) {
			t.Errorf("the list %v became %v", before, l)
		}
	}
}
