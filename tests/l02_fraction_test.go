package tests

import (
	"math"
	"math/big"
	"strings"
	"testing"

	"loop.example/g01927/impl"
)

// Promise 3, fractions and decimals: they are exact; rounding down and up encloses the exact value.

const trillion = 1000000000000

var validFracs = []impl.Frac{
	{Num: 0, Den: 1}, {Num: 1, Den: 1}, {Num: -1, Den: 1}, {Num: 7, Den: 1},
	{Num: 1, Den: 2}, {Num: -1, Den: 2}, {Num: 1, Den: 3}, {Num: -1, Den: 3}, {Num: 2, Den: 3}, {Num: -5, Den: 6},
	{Num: 1, Den: 7}, {Num: 99, Den: 100}, {Num: -199, Den: 100}, {Num: 1, Den: 64}, {Num: -1, Den: 1024},
	{Num: 1, Den: impl.MaxDen}, {Num: -1, Den: impl.MaxDen}, {Num: 1, Den: impl.MaxDen - 1}, {Num: -1, Den: impl.MaxDen - 1},
	{Num: 9999, Den: impl.MaxDen}, {Num: -10001, Den: impl.MaxDen}, {Num: 123456789, Den: 9973}, {Num: -987654321, Den: 9973},
	{Num: impl.MaxNum, Den: 1}, {Num: -impl.MaxNum, Den: 1}, {Num: impl.MaxNum, Den: 2}, {Num: impl.MaxNum - 1, Den: 1},
	{Num: impl.MaxNum, Den: impl.MaxDen}, {Num: -impl.MaxNum, Den: impl.MaxDen}, {Num: -impl.MaxNum, Den: impl.MaxDen - 2},
}

var invalidFracs = []impl.Frac{
	{}, {Num: 1}, {Num: -1}, {Num: impl.MaxNum},
	{Num: 0, Den: 2}, {Num: 0, Den: impl.MaxDen}, {Num: 0, Den: -1}, {Num: 1, Den: -1}, {Num: 1, Den: -2}, {Num: -1, Den: -2},
	{Num: 2, Den: 2}, {Num: 2, Den: 4}, {Num: -2, Den: 4}, {Num: 6, Den: 9}, {Num: 5000, Den: impl.MaxDen}, {Num: impl.MaxNum, Den: 3},
	{Num: 1, Den: impl.MaxDen + 1}, {Num: -1, Den: impl.MaxDen + 1}, {Num: 1, Den: math.MaxInt}, {Num: 1, Den: math.MinInt},
	{Num: impl.MaxNum + 1, Den: 1}, {Num: -impl.MaxNum - 1, Den: 1}, {Num: impl.MaxNum + 1, Den: 7},
	{Num: math.MaxInt, Den: 1}, {Num: math.MinInt, Den: 1}, {Num: math.MinInt, Den: math.MinInt}, {Num: math.MinInt, Den: -1},
	{Num: 0, Den: math.MinInt}, {Num: math.MaxInt, Den: math.MaxInt}, {Num: math.MinInt}, {Num: math.MinInt, Den: impl.MaxDen},
}

func ratOf(f impl.Frac) *big.Rat {
	return big.NewRat(int64(f.Num), int64(f.Den))
}

// fracOf returns the reduced fraction that equals r, if it is within the limits.
func fracOf(r *big.Rat) (impl.Frac, bool) {
	num, den := r.Num(), r.Denom()
	if new(big.Int).Abs(num).Cmp(big.NewInt(impl.MaxNum)) > 0 || den.Cmp(big.NewInt(impl.MaxDen)) > 0 {
		return impl.Frac{}, false
	}
	return impl.Frac{Num: int(num.Int64()), Den: int(den.Int64())}, true
}

// smallFracs returns every valid fraction with Num from -limit to limit and Den up to limit.
func smallFracs(limit int) []impl.Frac {
	var all []impl.Frac
	for den := 1; den <= limit; den++ {
		for num := -limit; num <= limit; num++ {
			if f := (impl.Frac{Num: num, Den: den}); impl.IsFrac(f) {
				all = append(all, f)
			}
		}
	}
	return all
}

func TestFracLimits(t *testing.T) {
	if impl.MaxNum != 999999999 || impl.MaxDen != 10000 {
		t.Errorf("the limits are %d and %d", impl.MaxNum, impl.MaxDen)
	}
}

func TestIsFrac(t *testing.T) {
	for _, f := range validFracs {
		if !impl.IsFrac(f) {
			t.Errorf("IsFrac(%v) is false", f)
		}
	}
	for _, f := range invalidFracs {
		if impl.IsFrac(f) {
			t.Errorf("IsFrac(%v) is true", f)
		}
	}
}

func TestIsFracOfEverySmallPair(t *testing.T) {
	for num := -40; num <= 40; num++ {
		for den := -40; den <= 40; den++ {
			f := impl.Frac{Num: num, Den: den}
			want := den > 0 && ratOf(f).Denom().Int64() == int64(den)
			if impl.IsFrac(f) != want {
				t.Errorf("IsFrac(%v) is %v", f, !want)
			}
		}
	}
}

func TestMakeFrac(t *testing.T) {
	cases := []struct {
		num, den int
		want     impl.Frac
	}{
		{1, 2, impl.Frac{Num: 1, Den: 2}},
		{6, 4, impl.Frac{Num: 3, Den: 2}},
		{-6, 4, impl.Frac{Num: -3, Den: 2}},
		{6, -4, impl.Frac{Num: -3, Den: 2}},
		{-6, -4, impl.Frac{Num: 3, Den: 2}},
		{-5, -1, impl.Frac{Num: 5, Den: 1}},
		{0, 1, impl.Frac{Den: 1}},
		{0, -7, impl.Frac{Den: 1}},
		{0, trillion, impl.Frac{Den: 1}},
		{0, -trillion, impl.Frac{Den: 1}},
		{trillion, trillion, impl.Frac{Num: 1, Den: 1}},
		{-trillion, trillion, impl.Frac{Num: -1, Den: 1}},
		{trillion, -trillion, impl.Frac{Num: -1, Den: 1}},
		{-trillion, -trillion, impl.Frac{Num: 1, Den: 1}},
		{trillion, 10000000, impl.Frac{Num: 100000, Den: 1}},
		{trillion / 10000, trillion, impl.Frac{Num: 1, Den: 10000}},
		{trillion - 1, 1001, impl.Frac{Num: 999000999, Den: 1}},
		{2, 20000, impl.Frac{Num: 1, Den: 10000}},
		{impl.MaxNum, 1, impl.Frac{Num: impl.MaxNum, Den: 1}},
		{impl.MaxNum, impl.MaxDen, impl.Frac{Num: impl.MaxNum, Den: impl.MaxDen}},
		{-impl.MaxNum, impl.MaxDen, impl.Frac{Num: -impl.MaxNum, Den: impl.MaxDen}},
		{impl.MaxNum, -impl.MaxDen, impl.Frac{Num: -impl.MaxNum, Den: impl.MaxDen}},
		{1000 * impl.MaxNum, 1000 * impl.MaxDen, impl.Frac{Num: impl.MaxNum, Den: impl.MaxDen}},
		{impl.MaxNum + 1, 2, impl.Frac{Num: 500000000, Den: 1}},
	}
	for _, c := range cases {
		if f, ok := impl.MakeFrac(c.num, c.den); f != c.want || !ok {
			t.Errorf("MakeFrac(%d, %d) = %v, %v, want %v", c.num, c.den, f, ok, c.want)
		}
	}
}

func TestMakeFracRefuses(t *testing.T) {
	cases := [][2]int{
		{0, 0}, {1, 0}, {-1, 0}, {trillion, 0}, {math.MinInt, 0},
		{1, impl.MaxDen + 1}, {-1, -impl.MaxDen - 1}, {3, 2*impl.MaxDen + 2}, {1, trillion},
		{impl.MaxNum + 1, 1}, {-impl.MaxNum - 1, 1}, {impl.MaxNum + 1, -1}, {trillion, 1}, {-trillion, 1}, {trillion, 1000},
		{trillion + 1, 1}, {-trillion - 1, 1}, {1, trillion + 1}, {1, -trillion - 1},
		{trillion + 1, trillion + 1}, {-trillion - 1, trillion + 1}, {trillion + 1, -trillion - 1},
		{0, trillion + 1}, {0, -trillion - 1},
		{2 * trillion, 2 * trillion}, {2 * trillion, trillion}, {trillion, 2 * trillion},
		{trillion + 10000, 10000}, {-trillion - 10000, 10000}, {10000, trillion + 10000},
		{math.MaxInt, math.MaxInt}, {math.MinInt, math.MinInt}, {math.MinInt, -1}, {0, math.MinInt}, {0, math.MaxInt},
		{math.MaxInt, 1}, {1, math.MaxInt}, {math.MinInt, math.MaxInt}, {math.MinInt, 1},
	}
	for _, c := range cases {
		if f, ok := impl.MakeFrac(c[0], c[1]); f != (impl.Frac{}) || ok {
			t.Errorf("MakeFrac(%d, %d) = %v, %v, want the zero value and false", c[0], c[1], f, ok)
		}
	}
}

func TestMakeFracIsExact(t *testing.T) {
	numbers := []int{
		-trillion, -trillion + 1, -999999999990, -impl.MaxNum - 1, -impl.MaxNum, -30030, -12, -2, -1, 0, 1, 2, 3, 4, 7, 12, 360,
		9999, 10000, 10001, 20000, 30030, 720720, 999999998, impl.MaxNum, impl.MaxNum + 1, 999999999990, trillion - 1, trillion,
	}
	for _, num := range numbers {
		for _, den := range numbers {
			if den == 0 {
				continue
			}
			want, valid := fracOf(big.NewRat(int64(num), int64(den)))
			if f, ok := impl.MakeFrac(num, den); f != want || ok != valid || ok != impl.IsFrac(f) {
				t.Errorf("MakeFrac(%d, %d) = %v, %v, want %v, %v", num, den, f, ok, want, valid)
			}
		}
	}
}

func TestWhole(t *testing.T) {
	for _, n := range []int{0, 1, -1, 5, -7, 10000, impl.MaxNum, -impl.MaxNum, impl.MaxNum - 1} {
		if f := impl.Whole(n); f != (impl.Frac{Num: n, Den: 1}) || !impl.IsFrac(f) {
			t.Errorf("Whole(%d) = %v", n, f)
		}
	}
	for _, n := range []int{impl.MaxNum + 1, -impl.MaxNum - 1, trillion, -trillion, math.MaxInt, math.MinInt} {
		if f := impl.Whole(n); f != (impl.Frac{Num: 0, Den: 1}) {
			t.Errorf("Whole(%d) = %v, want 0/1", n, f)
		}
	}
}

func TestCompareFracs(t *testing.T) {
	all := append(smallFracs(6), validFracs...)
	for _, a := range all {
		for _, b := range all {
			if got, want := impl.CompareFracs(a, b), ratOf(a).Cmp(ratOf(b)); got != want {
				t.Errorf("CompareFracs(%v, %v) = %d, want %d", a, b, got, want)
			}
		}
	}
}

func TestSubtractFracs(t *testing.T) {
	cases := []struct{ a, b, want impl.Frac }{
		{impl.Frac{Num: 1, Den: 3}, impl.Frac{Num: -1, Den: 2}, impl.Frac{Num: 5, Den: 6}},
		{impl.Frac{Num: 1, Den: 6}, impl.Frac{Num: 1, Den: 2}, impl.Frac{Num: -1, Den: 3}},
		{impl.Frac{Num: 3, Den: 4}, impl.Frac{Num: 3, Den: 4}, impl.Frac{Num: 0, Den: 1}},
		{impl.Frac{Num: 1, Den: 100}, impl.Frac{Num: 1, Den: 10000}, impl.Frac{Num: 99, Den: 10000}},
		{impl.Whole(impl.MaxNum), impl.Whole(0), impl.Whole(impl.MaxNum)},
		{impl.Whole(impl.MaxNum - 1), impl.Whole(-1), impl.Whole(impl.MaxNum)},
		{impl.Whole(-impl.MaxNum), impl.Whole(-impl.MaxNum), impl.Whole(0)},
		// The numerators before reducing, about 10^13, are beyond what MakeFrac accepts.
		{impl.Frac{Num: 999999999, Den: 10000}, impl.Frac{Num: 9999, Den: 10000}, impl.Frac{Num: 99999, Den: 1}},
		{impl.Frac{Num: 999999999, Den: 10000}, impl.Frac{Num: -1, Den: 10000}, impl.Frac{Num: 100000, Den: 1}},
	}
	for _, c := range cases {
		if got, ok := impl.SubtractFracs(c.a, c.b); got != c.want || !ok {
			t.Errorf("SubtractFracs(%v, %v) = %v, %v, want %v", c.a, c.b, got, ok, c.want)
		}
	}
	all := append(smallFracs(6), validFracs...)
	for _, a := range all {
		for _, b := range all {
			want, valid := fracOf(new(big.Rat).Sub(ratOf(a), ratOf(b)))
			if got, ok := impl.SubtractFracs(a, b); got != want || ok != valid {
				t.Errorf("SubtractFracs(%v, %v) = %v, %v, want %v, %v", a, b, got, ok, want, valid)
			}
		}
	}
}

func TestSubtractFracsRefuses(t *testing.T) {
	cases := [][2]impl.Frac{
		{impl.Whole(impl.MaxNum), impl.Whole(-1)},
		{impl.Whole(-impl.MaxNum), impl.Whole(1)},
		{impl.Whole(impl.MaxNum), impl.Whole(-impl.MaxNum)},
		{impl.Frac{Num: 1, Den: 9999}, impl.Frac{Num: 1, Den: 10000}},
		{impl.Frac{Num: 1, Den: 101}, impl.Frac{Num: 1, Den: 100}},
		{impl.Whole(100000), impl.Frac{Num: -1, Den: 10000}},
	}
	for _, c := range cases {
		if got, ok := impl.SubtractFracs(c[0], c[1]); got != (impl.Frac{}) || ok {
			t.Errorf("SubtractFracs(%v, %v) = %v, %v, want the zero value and false", c[0], c[1], got, ok)
		}
	}
}

func TestInvalidFracsAreRefused(t *testing.T) {
	others := append([]impl.Frac{{Num: 1, Den: 2}, {Num: -5, Den: 1}, {Num: 0, Den: 1}}, invalidFracs...)
	for _, f := range invalidFracs {
		for _, g := range others {
			if impl.CompareFracs(f, g) != 0 || impl.CompareFracs(g, f) != 0 {
				t.Errorf("%v and %v are compared", f, g)
			}
			if d, ok := impl.SubtractFracs(f, g); d != (impl.Frac{}) || ok {
				t.Errorf("SubtractFracs(%v, %v) = %v, %v", f, g, d, ok)
			}
			if d, ok := impl.SubtractFracs(g, f); d != (impl.Frac{}) || ok {
				t.Errorf("SubtractFracs(%v, %v) = %v, %v", g, f, d, ok)
			}
		}
		if s := impl.FormatFrac(f); s != "" {
			t.Errorf("FormatFrac(%v) = %q", f, s)
		}
		for places := range 7 {
			if down, up := impl.DecimalDown(f, places), impl.DecimalUp(f, places); down != "" || up != "" {
				t.Errorf("the decimals of %v are %q and %q", f, down, up)
			}
		}
	}
}

func TestFormatFrac(t *testing.T) {
	cases := []struct {
		f    impl.Frac
		want string
	}{
		{impl.Frac{Num: -1, Den: 2}, "-1/2"},
		{impl.Frac{Num: 1, Den: 2}, "1/2"},
		{impl.Frac{Num: 0, Den: 1}, "0"},
		{impl.Frac{Num: -7, Den: 1}, "-7"},
		{impl.Frac{Num: 7, Den: 10}, "7/10"},
		{impl.Frac{Num: impl.MaxNum, Den: impl.MaxDen}, "999999999/10000"},
		{impl.Frac{Num: -impl.MaxNum, Den: impl.MaxDen}, "-999999999/10000"},
		{impl.Frac{Num: impl.MaxNum, Den: 1}, "999999999"},
		{impl.Frac{Num: -impl.MaxNum, Den: 1}, "-999999999"},
	}
	for _, c := range cases {
		if got := impl.FormatFrac(c.f); got != c.want {
			t.Errorf("FormatFrac(%v) = %q, want %q", c.f, got, c.want)
		}
	}
	for _, f := range append(smallFracs(20), validFracs...) {
		if got, ok := impl.ParseFrac(impl.FormatFrac(f)); got != f || !ok {
			t.Errorf("ParseFrac(%q) = %v, %v, want %v", impl.FormatFrac(f), got, ok, f)
		}
	}
}

func TestParseFracOfEveryShortString(t *testing.T) {
	fracs := map[string]impl.Frac{}
	for num := -999; num <= 9999; num++ {
		fracs[impl.FormatFrac(impl.Whole(num))] = impl.Whole(num)
	}
	for num := -99; num <= 999; num++ {
		for den := 2; den <= 999; den++ {
			if f := (impl.Frac{Num: num, Den: den}); impl.IsFrac(f) {
				fracs[impl.FormatFrac(f)] = f
			}
		}
	}
	for _, s := range append(shortStrings("-+0129/. ", 4), shortStrings("-0124/", 5)...) {
		// Five digits without a slash are beyond the fractions that are listed.
		if len(s) == 5 && !strings.Contains(s, "/") {
			continue
		}
		want, valid := fracs[s]
		if f, ok := impl.ParseFrac(s); f != want || ok != valid {
			t.Fatalf("ParseFrac(%q) = %v, %v, want %v, %v", s, f, ok, want, valid)
		}
	}
}

func TestParseFracRefuses(t *testing.T) {
	for _, s := range []string{
		"", "/", "1/", "/2", "-/2", "1//2", "1/2/", "/1/2", "1/2/3", "-", "--1/2", "-0", "-0/1", "0/1", "0/5", "00",
		"2/4", "3/1", "-3/1", "10/10", "1/0", "0/0", "1/-2", "-1/-2", "1/+2", "+1/2", "01/2", "1/02", "1/01", "1/ 2", "1 /2",
		" 1/2", "1/2 ", "1/2\n", "1/2x", "x/2", "1/x", "x", "x/1", "1/2?", "0.5", "1.0/2", "1\\2", "½", "1∕2", "1/٢", "1/2\x00", "\xff/2",
		"1/10001", "-1/10001", "1/100000", "1/999999999", "1/1000000001", "1/18446744073709551618",
		"1000000000", "-1000000000", "1000000000/7", "0000000001", "1/0000000002", "18446744073709551617", "18446744073709551617/2",
		"999999999/3", "-999999999/9999", "5000/10000", "1..2", "null",
		strings.Repeat("9", 1000), "1/" + strings.Repeat("3", 1000), strings.Repeat("/", 1000),
	} {
		if f, ok := impl.ParseFrac(s); f != (impl.Frac{}) || ok {
			t.Errorf("ParseFrac(%q) = %v, %v, want the zero value and false", s, f, ok)
		}
	}
}

func TestDecimals(t *testing.T) {
	cases := []struct {
		f        impl.Frac
		places   int
		down, up string
	}{
		{impl.Frac{Num: 1, Den: 3}, 2, "0.33", "0.34"},
		{impl.Frac{Num: -1, Den: 3}, 2, "-0.34", "-0.33"},
		{impl.Frac{Num: 1, Den: 3}, 0, "0", "1"},
		{impl.Frac{Num: -1, Den: 3}, 0, "-1", "0"},
		{impl.Frac{Num: -1, Den: 2}, 0, "-1", "0"},
		{impl.Frac{Num: -1, Den: 2}, 1, "-0.5", "-0.5"},
		{impl.Frac{Num: -1, Den: 2}, 3, "-0.500", "-0.500"},
		{impl.Frac{Num: -1, Den: 8}, 2, "-0.13", "-0.12"},
		{impl.Frac{Num: -199, Den: 100}, 1, "-2.0", "-1.9"},
		{impl.Frac{Num: -199, Den: 100}, 2, "-1.99", "-1.99"},
		{impl.Frac{Num: 199, Den: 100}, 1, "1.9", "2.0"},
		{impl.Frac{Num: 199, Den: 100}, 0, "1", "2"},
		{impl.Frac{Num: -1, Den: 10000}, 2, "-0.01", "0.00"},
		{impl.Frac{Num: -1, Den: 10000}, 4, "-0.0001", "-0.0001"},
		{impl.Frac{Num: 1, Den: 10000}, 3, "0.000", "0.001"},
		{impl.Frac{Num: 1, Den: 10000}, 6, "0.000100", "0.000100"},
		{impl.Frac{Num: 0, Den: 1}, 0, "0", "0"},
		{impl.Frac{Num: 0, Den: 1}, 1, "0.0", "0.0"},
		{impl.Frac{Num: 0, Den: 1}, 6, "0.000000", "0.000000"},
		{impl.Frac{Num: 10, Den: 1}, 0, "10", "10"},
		{impl.Frac{Num: -10, Den: 1}, 1, "-10.0", "-10.0"},
		{impl.Frac{Num: 99, Den: 100}, 1, "0.9", "1.0"},
		{impl.Frac{Num: -9999, Den: 10000}, 3, "-1.000", "-0.999"},
		{impl.Frac{Num: 1, Den: 7}, 6, "0.142857", "0.142858"},
		{impl.Frac{Num: impl.MaxNum, Den: 1}, 0, "999999999", "999999999"},
		{impl.Frac{Num: impl.MaxNum, Den: 1}, 6, "999999999.000000", "999999999.000000"},
		{impl.Frac{Num: -impl.MaxNum, Den: 1}, 6, "-999999999.000000", "-999999999.000000"},
		{impl.Frac{Num: -impl.MaxNum, Den: 2}, 0, "-500000000", "-499999999"},
		{impl.Frac{Num: impl.MaxNum, Den: impl.MaxDen}, 3, "99999.999", "100000.000"},
		{impl.Frac{Num: -impl.MaxNum, Den: impl.MaxDen}, 3, "-100000.000", "-99999.999"},
		{impl.Frac{Num: impl.MaxNum, Den: impl.MaxDen}, 4, "99999.9999", "99999.9999"},
	}
	for _, c := range cases {
		if got := impl.DecimalDown(c.f, c.places); got != c.down {
			t.Errorf("DecimalDown(%v, %d) = %q, want %q", c.f, c.places, got, c.down)
		}
		if got := impl.DecimalUp(c.f, c.places); got != c.up {
			t.Errorf("DecimalUp(%v, %d) = %q, want %q", c.f, c.places, got, c.up)
		}
	}
}

func TestDecimalsRefusePlaces(t *testing.T) {
	for _, places := range []int{math.MinInt, -7, -1, 7, 8, 18, 64, math.MaxInt} {
		for _, f := range []impl.Frac{{Num: 0, Den: 1}, {Num: 1, Den: 3}, {Num: -1, Den: 3}, {Num: impl.MaxNum, Den: 1}} {
			if down, up := impl.DecimalDown(f, places), impl.DecimalUp(f, places); down != "" || up != "" {
				t.Errorf("the decimals of %v with %d places are %q and %q", f, places, down, up)
			}
		}
	}
}

// checkDecimal checks the format of s and returns its value.
func checkDecimal(t *testing.T, s string, places int) *big.Rat {
	t.Helper()
	whole, digits, point := strings.Cut(strings.TrimPrefix(s, "-"), ".")
	if whole == "" || strings.Trim(whole+digits, "0123456789") != "" || len(digits) != places || point != (places > 0) {
		t.Fatalf("%q is no decimal with %d places", s, places)
	}
	if len(whole) > 1 && whole[0] == '0' {
		t.Errorf("%q has an unnecessary zero", s)
	}
	value, ok := new(big.Rat).SetString(s)
	if !ok {
		t.Fatalf("%q is no number", s)
	}
	if strings.HasPrefix(s, "-") != (value.Sign() < 0) {
		t.Errorf("%q has a wrong sign", s)
	}
	return value
}

func TestDecimalsEncloseTheFraction(t *testing.T) {
	step := big.NewRat(1, 1)
	for places := range 7 {
		for _, f := range append(smallFracs(12), validFracs...) {
			value := ratOf(f)
			down := checkDecimal(t, impl.DecimalDown(f, places), places)
			up := checkDecimal(t, impl.DecimalUp(f, places), places)
			if down.Cmp(value) > 0 || new(big.Rat).Add(down, step).Cmp(value) <= 0 {
				t.Errorf("DecimalDown(%v, %d) = %q", f, places, impl.DecimalDown(f, places))
			}
			if up.Cmp(value) < 0 || new(big.Rat).Sub(up, step).Cmp(value) >= 0 {
				t.Errorf("DecimalUp(%v, %d) = %q", f, places, impl.DecimalUp(f, places))
			}
		}
		step.Mul(step, big.NewRat(1, 10))
	}
}
