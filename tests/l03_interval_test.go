package tests

import (
	"math"
	"math/big"
	"strings"
	"testing"

	"loop.example/g01927/impl"
)

// Promise 3, intervals: they are exact.

// between returns the interval between two whole numbers.
func between(low int, high int) impl.Interval {
	return impl.Interval{Low: impl.Whole(low), High: impl.Whole(high)}
}

// intervalsOf returns every interval whose bounds are in the list.
func intervalsOf(fracs []impl.Frac) []impl.Interval {
	var all []impl.Interval
	for _, low := range fracs {
		for _, high := range fracs {
			if ratOf(low).Cmp(ratOf(high)) <= 0 {
				all = append(all, impl.Interval{Low: low, High: high})
			}
		}
	}
	return all
}

// invalidIntervals returns intervals with a bound that is not valid, and some in the wrong order.
func invalidIntervals() []impl.Interval {
	all := []impl.Interval{
		{},
		between(2, 1), between(1, -1), between(0, -1), between(impl.MaxNum, -impl.MaxNum), between(impl.MaxNum, impl.MaxNum-1),
		{Low: impl.Frac{Num: 1, Den: 2}, High: impl.Frac{Num: 1, Den: 3}},
		{Low: impl.Frac{Num: -1, Den: 3}, High: impl.Frac{Num: -1, Den: 2}},
		{Low: impl.Frac{Num: 1, Den: 9999}, High: impl.Frac{Num: 1, Den: 10000}},
		{Low: impl.Frac{Num: 2, Den: 4}, High: impl.Frac{Num: 1, Den: 2}},
		{Low: impl.Frac{Num: 1, Den: 2}, High: impl.Frac{Num: 2, Den: 4}},
	}
	for _, f := range invalidFracs {
		all = append(all,
			impl.Interval{Low: f, High: f},
			impl.Interval{Low: f, High: impl.Whole(impl.MaxNum)},
			impl.Interval{Low: impl.Whole(-impl.MaxNum), High: f},
			impl.Interval{Low: f, High: impl.Whole(0)},
			impl.Interval{Low: impl.Whole(0), High: f})
	}
	return all
}

func lies(f impl.Frac, x impl.Interval) bool {
	return ratOf(x.Low).Cmp(ratOf(f)) <= 0 && ratOf(f).Cmp(ratOf(x.High)) <= 0
}

func TestIsInterval(t *testing.T) {
	for _, low := range validFracs {
		for _, high := range validFracs {
			x := impl.Interval{Low: low, High: high}
			if want := ratOf(low).Cmp(ratOf(high)) <= 0; impl.IsInterval(x) != want {
				t.Errorf("IsInterval(%v) is %v", x, !want)
			}
		}
	}
	for _, x := range invalidIntervals() {
		if impl.IsInterval(x) {
			t.Errorf("IsInterval(%v) is true", x)
		}
	}
}

func TestExactly(t *testing.T) {
	for _, n := range []int{0, 1, -1, 4, -7, impl.MaxNum, -impl.MaxNum} {
		x := impl.Exactly(n)
		if f := (impl.Frac{Num: n, Den: 1}); x.Low != f || x.High != f || !impl.IsExact(x) {
			t.Errorf("Exactly(%d) = %v", n, x)
		}
	}
	for _, n := range []int{impl.MaxNum + 1, -impl.MaxNum - 1, trillion, math.MaxInt, math.MinInt} {
		if x := impl.Exactly(n); x != between(0, 0) {
			t.Errorf("Exactly(%d) = %v, want the interval of 0", n, x)
		}
	}
}

func TestContains(t *testing.T) {
	cases := []struct {
		x    impl.Interval
		f    impl.Frac
		want bool
	}{
		{between(1, 3), impl.Whole(1), true},
		{between(1, 3), impl.Whole(2), true},
		{between(1, 3), impl.Whole(3), true},
		{between(1, 3), impl.Frac{Num: 9999, Den: 10000}, false},
		{between(1, 3), impl.Frac{Num: 30001, Den: 10000}, false},
		{between(2, 2), impl.Whole(2), true},
		{between(2, 2), impl.Frac{Num: 20001, Den: 10000}, false},
		{between(2, 2), impl.Frac{Num: 19999, Den: 10000}, false},
		{between(-impl.MaxNum, impl.MaxNum), impl.Whole(-impl.MaxNum), true},
		{between(-impl.MaxNum, impl.MaxNum), impl.Whole(impl.MaxNum), true},
		{between(-impl.MaxNum, impl.MaxNum), impl.Frac{Num: 1, Den: 10000}, true},
		{between(1-impl.MaxNum, impl.MaxNum-1), impl.Whole(impl.MaxNum), false},
	}
	for _, c := range cases {
		if impl.Contains(c.x, c.f) != c.want {
			t.Errorf("Contains(%v, %v) is %v", c.x, c.f, !c.want)
		}
	}
	for _, x := range intervalsOf(validFracs) {
		for _, f := range validFracs {
			if want := lies(f, x); impl.Contains(x, f) != want {
				t.Errorf("Contains(%v, %v) is %v", x, f, !want)
			}
		}
	}
}

func TestLiesWithin(t *testing.T) {
	cases := []struct {
		x, y impl.Interval
		want bool
	}{
		{between(2, 3), between(1, 4), true},
		{between(1, 4), between(2, 3), false},
		{between(1, 4), between(1, 4), true},
		{between(1, 3), between(1, 4), true},
		{between(2, 4), between(1, 4), true},
		{between(0, 3), between(1, 4), false},
		{between(2, 5), between(1, 4), false},
		{between(4, 4), between(1, 4), true},
		{between(1, 1), between(1, 4), true},
		{between(5, 5), between(1, 4), false},
		{between(0, 0), between(1, 4), false},
		{between(1, 4), between(4, 4), false},
		{between(4, 4), between(4, 4), true},
		{between(5, 6), between(1, 4), false},
		{between(1, 4), between(4, 6), false},
	}
	for _, c := range cases {
		if impl.LiesWithin(c.x, c.y) != c.want {
			t.Errorf("LiesWithin(%v, %v) is %v", c.x, c.y, !c.want)
		}
	}
}

func TestWidthOf(t *testing.T) {
	cases := []struct {
		x    impl.Interval
		want impl.Frac
	}{
		{between(1, 3), impl.Whole(2)},
		{between(3, 3), impl.Whole(0)},
		{between(-2, 3), impl.Whole(5)},
		{between(-5, -2), impl.Whole(3)},
		{between(0, impl.MaxNum), impl.Whole(impl.MaxNum)},
		{between(-1, impl.MaxNum-1), impl.Whole(impl.MaxNum)},
		{impl.Interval{Low: impl.Frac{Num: -1, Den: 2}, High: impl.Frac{Num: 1, Den: 3}}, impl.Frac{Num: 5, Den: 6}},
		{impl.Interval{Low: impl.Frac{Num: 1, Den: 6}, High: impl.Frac{Num: 1, Den: 2}}, impl.Frac{Num: 1, Den: 3}},
		{impl.Interval{Low: impl.Frac{Num: 1, Den: 10000}, High: impl.Frac{Num: 1, Den: 10000}}, impl.Whole(0)},
	}
	for _, c := range cases {
		if got, ok := impl.WidthOf(c.x); got != c.want || !ok {
			t.Errorf("WidthOf(%v) = %v, %v, want %v", c.x, got, ok, c.want)
		}
	}
	for _, x := range intervalsOf(append(smallFracs(6), validFracs...)) {
		want, valid := fracOf(new(big.Rat).Sub(ratOf(x.High), ratOf(x.Low)))
		if got, ok := impl.WidthOf(x); got != want || ok != valid {
			t.Errorf("WidthOf(%v) = %v, %v, want %v, %v", x, got, ok, want, valid)
		}
	}
}

func TestWidthThatIsNoFraction(t *testing.T) {
	for _, x := range []impl.Interval{
		between(-1, impl.MaxNum), between(-impl.MaxNum, 1), between(-impl.MaxNum, impl.MaxNum),
		{Low: impl.Frac{Num: 1, Den: 10000}, High: impl.Frac{Num: 1, Den: 9999}},
		{Low: impl.Frac{Num: 1, Den: 101}, High: impl.Frac{Num: 1, Den: 100}},
		{Low: impl.Frac{Num: -1, Den: 10000}, High: impl.Whole(100000)},
	} {
		if !impl.IsInterval(x) {
			t.Errorf("IsInterval(%v) is false", x)
		}
		if got, ok := impl.WidthOf(x); got != (impl.Frac{}) || ok {
			t.Errorf("WidthOf(%v) = %v, %v, want the zero value and false", x, got, ok)
		}
	}
}

func TestIsExact(t *testing.T) {
	for _, x := range intervalsOf(append(smallFracs(6), validFracs...)) {
		if want := x.Low == x.High; impl.IsExact(x) != want {
			t.Errorf("IsExact(%v) is %v", x, !want)
		}
	}
}

func TestMeet(t *testing.T) {
	third := impl.Frac{Num: 1, Den: 3}
	cases := []struct{ x, y, want impl.Interval }{
		{between(1, 3), between(3, 5), between(3, 3)},
		{between(1, 4), between(3, 5), between(3, 4)},
		{between(1, 6), between(3, 5), between(3, 5)},
		{between(3, 6), between(3, 5), between(3, 5)},
		{between(1, 5), between(3, 5), between(3, 5)},
		{between(3, 5), between(3, 5), between(3, 5)},
		{between(3, 3), between(3, 5), between(3, 3)},
		{between(5, 5), between(3, 5), between(5, 5)},
		{between(4, 4), between(3, 5), between(4, 4)},
		{between(4, 4), between(4, 4), between(4, 4)},
		{impl.Interval{Low: impl.Whole(0), High: third}, impl.Interval{Low: third, High: impl.Whole(1)}, impl.Interval{Low: third, High: third}},
		{between(-impl.MaxNum, impl.MaxNum), between(impl.MaxNum, impl.MaxNum), between(impl.MaxNum, impl.MaxNum)},
	}
	for _, c := range cases {
		if got, ok := impl.Meet(c.x, c.y); got != c.want || !ok {
			t.Errorf("Meet(%v, %v) = %v, %v, want %v", c.x, c.y, got, ok, c.want)
		}
		if got, ok := impl.Meet(c.y, c.x); got != c.want || !ok {
			t.Errorf("Meet(%v, %v) = %v, %v, want %v", c.y, c.x, got, ok, c.want)
		}
	}
}

// apart lists pairs with nothing in common, the lower interval first.
var apart = [][2]impl.Interval{
	{between(1, 3), between(4, 4)},
	{between(1, 1), between(2, 2)},
	{between(-3, -2), between(-1, 5)},
	{between(-impl.MaxNum, -impl.MaxNum), between(1-impl.MaxNum, impl.MaxNum)},
	{{Low: impl.Whole(0), High: impl.Frac{Num: 1, Den: 3}}, {Low: impl.Frac{Num: 1, Den: 2}, High: impl.Whole(1)}},
	{{Low: impl.Whole(0), High: impl.Frac{Num: 1, Den: 10000}}, {Low: impl.Frac{Num: 1, Den: 9999}, High: impl.Whole(1)}},
}

func TestIntervalsApart(t *testing.T) {
	for _, c := range apart {
		x, y := c[0], c[1]
		if impl.CompareIntervals(x, y) != -1 || impl.CompareIntervals(y, x) != 1 {
			t.Errorf("%v and %v compare as %d and %d", x, y, impl.CompareIntervals(x, y), impl.CompareIntervals(y, x))
		}
		if got, ok := impl.Meet(x, y); got != (impl.Interval{}) || ok {
			t.Errorf("Meet(%v, %v) = %v, %v, want the zero value and false", x, y, got, ok)
		}
		if got, ok := impl.Meet(y, x); got != (impl.Interval{}) || ok {
			t.Errorf("Meet(%v, %v) = %v, %v, want the zero value and false", y, x, got, ok)
		}
		if impl.LiesWithin(x, y) || impl.LiesWithin(y, x) {
			t.Errorf("one of %v and %v lies within the other", x, y)
		}
	}
}

func TestCompareIntervalsThatTouch(t *testing.T) {
	for _, c := range [][2]impl.Interval{
		{between(1, 3), between(3, 5)}, {between(1, 4), between(3, 5)}, {between(1, 6), between(3, 5)},
		{between(3, 5), between(3, 5)}, {between(3, 3), between(3, 5)}, {between(5, 5), between(3, 5)}, {between(4, 4), between(4, 4)},
	} {
		if impl.CompareIntervals(c[0], c[1]) != 0 || impl.CompareIntervals(c[1], c[0]) != 0 {
			t.Errorf("%v and %v do not compare as 0", c[0], c[1])
		}
	}
}

func TestEveryPairOfIntervals(t *testing.T) {
	fracs := append(smallFracs(3), validFracs[len(validFracs)-8:]...)
	all := intervalsOf(fracs)
	for _, x := range all {
		for _, y := range all {
			checkPair(t, x, y, fracs)
		}
	}
}

// checkPair compares the functions of two intervals with what each fraction of the list says of them.
func checkPair(t *testing.T, x impl.Interval, y impl.Interval, fracs []impl.Frac) {
	t.Helper()
	within, common := true, false
	low, high := impl.Frac{}, impl.Frac{}
	for _, f := range fracs {
		if !lies(f, x) {
			continue
		}
		if !lies(f, y) {
			within = false
			continue
		}
		if !common || ratOf(f).Cmp(ratOf(low)) < 0 {
			low = f
		}
		if !common || ratOf(f).Cmp(ratOf(high)) > 0 {
			high = f
		}
		common = true
	}
	order := 0
	if !common {
		order = ratOf(x.Low).Cmp(ratOf(y.Low))
	}
	if impl.LiesWithin(x, y) != within {
		t.Errorf("LiesWithin(%v, %v) is %v", x, y, !within)
	}
	if got, ok := impl.Meet(x, y); ok != common || got != (impl.Interval{Low: low, High: high}) {
		t.Errorf("Meet(%v, %v) = %v, %v", x, y, got, ok)
	}
	if got := impl.CompareIntervals(x, y); got != order {
		t.Errorf("CompareIntervals(%v, %v) = %d, want %d", x, y, got, order)
	}
}

func TestInvalidIntervalsAreRefused(t *testing.T) {
	invalid := invalidIntervals()
	others := append([]impl.Interval{between(-impl.MaxNum, impl.MaxNum), between(0, 0), between(-5, -4), between(impl.MaxNum, impl.MaxNum)}, invalid...)
	for _, x := range invalid {
		for _, y := range others {
			refusePair(t, x, y)
			refusePair(t, y, x)
		}
		for _, f := range append([]impl.Frac{x.Low, x.High, {Num: 0, Den: 1}, {Num: 1, Den: 2}}, invalidFracs...) {
			if impl.Contains(x, f) {
				t.Errorf("Contains(%v, %v) is true", x, f)
			}
		}
		if w, ok := impl.WidthOf(x); w != (impl.Frac{}) || ok {
			t.Errorf("WidthOf(%v) = %v, %v, want the zero value and false", x, w, ok)
		}
		if impl.IsExact(x) {
			t.Errorf("IsExact(%v) is true", x)
		}
		if s := impl.FormatInterval(x); s != "" {
			t.Errorf("FormatInterval(%v) = %q, want an empty string", x, s)
		}
	}
}

func refusePair(t *testing.T, x impl.Interval, y impl.Interval) {
	t.Helper()
	if impl.LiesWithin(x, y) {
		t.Errorf("LiesWithin(%v, %v) is true", x, y)
	}
	if got, ok := impl.Meet(x, y); got != (impl.Interval{}) || ok {
		t.Errorf("Meet(%v, %v) = %v, %v, want the zero value and false", x, y, got, ok)
	}
	if got := impl.CompareIntervals(x, y); got != 0 {
		t.Errorf("CompareIntervals(%v, %v) = %d, want 0", x, y, got)
	}
}

func TestContainsRefusesInvalidFractions(t *testing.T) {
	for _, x := range []impl.Interval{between(-impl.MaxNum, impl.MaxNum), between(0, 0), between(-1, 1), between(1, 5)} {
		for _, f := range invalidFracs {
			if impl.Contains(x, f) {
				t.Errorf("Contains(%v, %v) is true", x, f)
			}
		}
	}
}

func TestFormatInterval(t *testing.T) {
	cases := []struct {
		x    impl.Interval
		want string
	}{
		{impl.Interval{Low: impl.Frac{Num: -1, Den: 2}, High: impl.Whole(3)}, "-1/2..3"},
		{between(1, 3), "1..3"},
		{between(-3, -1), "-3..-1"},
		{between(0, 0), "0"},
		{between(-2, -2), "-2"},
		{impl.Interval{Low: impl.Frac{Num: 2, Den: 3}, High: impl.Frac{Num: 2, Den: 3}}, "2/3"},
		{impl.Interval{Low: impl.Frac{Num: -1, Den: 2}, High: impl.Frac{Num: 3, Den: 4}}, "-1/2..3/4"},
		{between(-impl.MaxNum, impl.MaxNum), "-999999999..999999999"},
		{impl.Interval{Low: impl.Frac{Num: -impl.MaxNum, Den: impl.MaxDen}, High: impl.Frac{Num: impl.MaxNum, Den: impl.MaxDen}}, "-999999999/10000..999999999/10000"},
	}
	for _, c := range cases {
		if got := impl.FormatInterval(c.x); got != c.want {
			t.Errorf("FormatInterval(%v) = %q, want %q", c.x, got, c.want)
		}
	}
	for _, x := range intervalsOf(append(smallFracs(6), validFracs...)) {
		s := impl.FormatInterval(x)
		if got, ok := impl.ParseInterval(s); got != x || !ok {
			t.Errorf("ParseInterval(%q) = %v, %v, want %v", s, got, ok, x)
		}
		if strings.Contains(s, "..") == (x.Low == x.High) {
			t.Errorf("FormatInterval(%v) = %q", x, s)
		}
	}
}

func TestParseIntervalOfEveryShortString(t *testing.T) {
	var bounds []impl.Frac
	for _, s := range shortStrings("-012/", 3) {
		if f, ok := impl.ParseFrac(s); ok {
			bounds = append(bounds, f)
		}
	}
	intervals := map[string]impl.Interval{}
	for _, x := range intervalsOf(bounds) {
		intervals[impl.FormatInterval(x)] = x
	}
	for _, s := range shortStrings("-012/.", 6) {
		// A single bound may be longer than those that are listed; beside the points none is.
		if len(s) > 3 && !strings.Contains(s, "..") {
			continue
		}
		want, valid := intervals[s]
		if x, ok := impl.ParseInterval(s); x != want || ok != valid {
			t.Fatalf("ParseInterval(%q) = %v, %v, want %v, %v", s, x, ok, want, valid)
		}
	}
}

func TestParseIntervalRefuses(t *testing.T) {
	for _, s := range []string{
		"", ".", "..", "...", "....", "1..", "..2", "1...2", "1.2", "1.5", ".1", "1.", "1....2", "1..2..", "..1..2", "1..2..3", "1.. ..2",
		"3..3", "-1/2..-1/2", "0..0", "2..1", "-1..-2", "0..-1", "1/2..1/3", "999999999..999999998", "1/9999..1/10000",
		"2/4", "2/4..1", "0..2/4", "1/1..2", "0..1/1", "1..04", "01..4", "-0..1", "-1..-0", "+1..2", "1..+2", "1/0..2", "0..1/0", "1/-2..2",
		" 1..2", "1..2 ", "1 ..2", "1.. 2", "1..2\n", "1..2?", "1,2", "1-2", "1:2", "1…2", "1‥2", "[1..2]", "1..x", "x..1", "x", "empty", "empty?", "1..null",
		"1..1000000000", "-1000000000..1", "0..1/10001", "1/10001..1", "1..18446744073709551618", "18446744073709551617..2",
		"1..2\x00", "\x001..2", "1\xff..2", strings.Repeat(".", 1000), strings.Repeat("1..", 1000), "0.." + strings.Repeat("9", 1000),
	} {
		if x, ok := impl.ParseInterval(s); x != (impl.Interval{}) || ok {
			t.Errorf("ParseInterval(%q) = %v, %v, want the zero value and false", s, x, ok)
		}
	}
}
