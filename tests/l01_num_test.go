package tests

import (
	"math"
	"strconv"
	"strings"
	"testing"

	"loop.example/g01927/impl"
)

// Promise 1: each decoder is the inverse of its encoder and accepts nothing else.

var badWidths = []int{math.MinInt, -8, -1, 0, 8, 9, 64, math.MaxInt}

// shortStrings returns every string of up to n of the given bytes.
func shortStrings(alphabet string, n int) []string {
	all := []string{""}
	last := all
	for range n {
		var next []string
		for _, s := range last {
			for i := range len(alphabet) {
				next = append(next, s+alphabet[i:i+1])
			}
		}
		all = append(all, next...)
		last = next
	}
	return all
}

func allBytes() string {
	var b []byte
	for i := range 256 {
		b = append(b, byte(i))
	}
	return string(b)
}

func TestEncodeFixed(t *testing.T) {
	cases := []struct {
		n, width int
		want     string
	}{
		{258, 2, "\x01\x02"},
		{0, 1, "\x00"},
		{0, 7, "\x00\x00\x00\x00\x00\x00\x00"},
		{1, 3, "\x00\x00\x01"},
		{65, 1, "A"},
		{128, 1, "\x80"},
		{255, 1, "\xff"},
		{256, 1, ""},
		{65535, 2, "\xff\xff"},
		{65536, 2, ""},
		{0x010203, 3, "\x01\x02\x03"},
		{0x01020304050607, 7, "\x01\x02\x03\x04\x05\x06\x07"},
		{0x01020304050607, 6, ""},
		{impl.MaxVarint, 7, "\x01\xff\xff\xff\xff\xff\xff"},
		{math.MaxInt, 7, ""},
		{math.MinInt, 7, ""},
		{-1, 1, ""},
		{-1, 7, ""},
		{-256, 2, ""},
	}
	for _, c := range cases {
		if got := impl.EncodeFixed(c.n, c.width); got != c.want {
			t.Errorf("EncodeFixed(%d, %d) = %q, want %q", c.n, c.width, got, c.want)
		}
	}
	for _, width := range badWidths {
		for _, n := range []int{-1, 0, 1, math.MaxInt} {
			if got := impl.EncodeFixed(n, width); got != "" {
				t.Errorf("EncodeFixed(%d, %d) = %q, want an empty string", n, width, got)
			}
		}
	}
}

func TestFixedLimitsOfWidth(t *testing.T) {
	limit := 1
	for width := 1; width <= 7; width++ {
		limit *= 256
		want := strings.Repeat("\xff", width)
		if got := impl.EncodeFixed(limit-1, width); got != want {
			t.Errorf("EncodeFixed(%d, %d) = %q, want %q", limit-1, width, got, want)
		}
		if got := impl.EncodeFixed(limit, width); got != "" {
			t.Errorf("EncodeFixed(%d, %d) = %q, want an empty string", limit, width, got)
		}
		if n, ok := impl.DecodeFixed(want, width); n != limit-1 || !ok {
			t.Errorf("DecodeFixed(%q, %d) = %d, %v", want, width, n, ok)
		}
		for n := 1; n < limit; n *= 2 {
			s := impl.EncodeFixed(n, width)
			if len(s) != width {
				t.Fatalf("EncodeFixed(%d, %d) = %q", n, width, s)
			}
			if got, ok := impl.DecodeFixed(s+"\xff", width); got != n || !ok {
				t.Errorf("DecodeFixed(%q, %d) = %d, %v, want %d", s+"\xff", width, got, ok, n)
			}
		}
	}
}

func TestDecodeFixed(t *testing.T) {
	for _, s := range shortStrings(allBytes(), 2) {
		if s == "" {
			continue
		}
		n, ok := impl.DecodeFixed(s, len(s))
		if !ok || impl.EncodeFixed(n, len(s)) != s {
			t.Fatalf("DecodeFixed(%q, %d) = %d, %v", s, len(s), n, ok)
		}
	}
	text := "\x01\x02\x03\x04\x05\x06\x07\x08\x09"
	want := 0
	for width := 1; width <= 7; width++ {
		want = want*256 + width
		if n, ok := impl.DecodeFixed(text, width); n != want || !ok {
			t.Errorf("DecodeFixed(%q, %d) = %d, %v, want %d", text, width, n, ok, want)
		}
		if n, ok := impl.DecodeFixed(text[:width-1], width); n != 0 || ok {
			t.Errorf("DecodeFixed(%q, %d) = %d, %v, want 0, false", text[:width-1], width, n, ok)
		}
		if n, ok := impl.DecodeFixed("", width); n != 0 || ok {
			t.Errorf("DecodeFixed of nothing with width %d = %d, %v", width, n, ok)
		}
	}
	for _, width := range badWidths {
		for _, s := range []string{"", "\x01", text} {
			if n, ok := impl.DecodeFixed(s, width); n != 0 || ok {
				t.Errorf("DecodeFixed(%q, %d) = %d, %v, want 0, false", s, width, n, ok)
			}
		}
	}
}

func TestEncodeVarint(t *testing.T) {
	cases := []struct {
		n    int
		want string
	}{
		{0, "\x00"},
		{1, "\x01"},
		{127, "\x7f"},
		{128, "\x80\x01"},
		{255, "\xff\x01"},
		{256, "\x80\x02"},
		{300, "\xac\x02"},
		{16383, "\xff\x7f"},
		{16384, "\x80\x80\x01"},
		{impl.MaxVarint - 1, "\xfe\xff\xff\xff\xff\xff\x7f"},
		{impl.MaxVarint, "\xff\xff\xff\xff\xff\xff\x7f"},
		{impl.MaxVarint + 1, ""},
		{math.MaxInt, ""},
		{math.MinInt, ""},
		{-1, ""},
		{-300, ""},
	}
	for _, c := range cases {
		if got := impl.EncodeVarint(c.n); got != c.want {
			t.Errorf("EncodeVarint(%d) = %q, want %q", c.n, got, c.want)
		}
	}
	if impl.MaxVarint != 562949953421311 {
		t.Errorf("MaxVarint is %d", impl.MaxVarint)
	}
}

func TestVarintLimitsOfLength(t *testing.T) {
	limit := 1
	for length := 1; length <= 7; length++ {
		for _, n := range []int{limit, limit + 1, limit*128 - 2, limit*128 - 1} {
			s := impl.EncodeVarint(n)
			if len(s) != length {
				t.Errorf("EncodeVarint(%d) = %q, want %d bytes", n, s, length)
			}
			for _, tail := range []string{"", "\x00", "\x80", "\xffz"} {
				if got, k := impl.DecodeVarint(s + tail); got != n || k != length {
					t.Errorf("DecodeVarint(%q) = %d, %d, want %d, %d", s+tail, got, k, n, length)
				}
			}
			for cut := range s {
				refuseVarint(t, s[:cut])
			}
		}
		limit *= 128
	}
	if limit-1 != impl.MaxVarint {
		t.Errorf("the longest varints end at %d", limit-1)
	}
}

func refuseVarint(t *testing.T, s string) {
	t.Helper()
	if n, k := impl.DecodeVarint(s); n != 0 || k != 0 {
		t.Errorf("DecodeVarint(%q) = %d, %d, want 0, 0", s, n, k)
	}
}

func TestDecodeVarintOfEveryShortString(t *testing.T) {
	numbers := map[string]int{}
	for n := range 16384 {
		numbers[impl.EncodeVarint(n)] = n
	}
	if len(numbers) != 16384 {
		t.Fatalf("16384 numbers have %d varints", len(numbers))
	}
	for _, s := range shortStrings(allBytes(), 2) {
		want, length := 0, 0
		for cut := range len(s) + 1 {
			if n, ok := numbers[s[:cut]]; ok {
				want, length = n, cut
				break
			}
		}
		if n, k := impl.DecodeVarint(s); n != want || k != length {
			t.Fatalf("DecodeVarint(%q) = %d, %d, want %d, %d", s, n, k, want, length)
		}
	}
}

func TestDecodeVarintRefusesUnnecessaryBytes(t *testing.T) {
	for _, n := range []int{0, 1, 127, 128, 300, 16384, impl.MaxVarint / 128, impl.MaxVarint} {
		s := impl.EncodeVarint(n)
		last := len(s) - 1
		longer := s[:last] + string([]byte{s[last] + 128})
		for range 8 {
			refuseVarint(t, longer+"\x00")
			refuseVarint(t, longer+"\x00\x05")
			longer += "\x80"
		}
	}
}

func TestDecodeVarintRefusesTooGreatNumbers(t *testing.T) {
	for _, s := range []string{
		"\x80\x80\x80\x80\x80\x80\x80\x01",
		"\xff\xff\xff\xff\xff\xff\xff\x01",
		"\xff\xff\xff\xff\xff\xff\xff\x7f",
		"\x80\x80\x80\x80\x80\x80\x80\x80\x01",
		"\xff\xff\xff\xff\xff\xff\xff\xff\x7f",
		"\x81\x80\x80\x80\x80\x80\x80\x80\x80\x01",
		strings.Repeat("\x80", 7),
		strings.Repeat("\xff", 7),
		strings.Repeat("\x80", 1000),
		strings.Repeat("\xff", 1000) + "\x01",
	} {
		refuseVarint(t, s)
	}
}

func TestEncodeHex(t *testing.T) {
	cases := []struct{ s, want string }{
		{"", ""},
		{"a\xff", "61ff"},
		{"\x00", "00"},
		{"\x0f\xf0", "0ff0"},
		{"\xab\xcd\xef", "abcdef"},
		{"é", "c3a9"},
		{"Hex 09", "486578203039"},
	}
	for _, c := range cases {
		if got := impl.EncodeHex(c.s); got != c.want {
			t.Errorf("EncodeHex(%q) = %q, want %q", c.s, got, c.want)
		}
		if got, ok := impl.DecodeHex(c.want); got != c.s || !ok {
			t.Errorf("DecodeHex(%q) = %q, %v, want %q", c.want, got, ok, c.s)
		}
	}
	long := strings.Repeat(allBytes(), 20)
	if got, ok := impl.DecodeHex(impl.EncodeHex(long)); got != long || !ok {
		t.Error("a long string is not decoded from its encoding")
	}
}

func TestDecodeHexOfEveryShortString(t *testing.T) {
	texts := map[string]string{"": ""}
	for i := range 256 {
		s := string([]byte{byte(i)})
		texts[impl.EncodeHex(s)] = s
	}
	if len(texts) != 257 {
		t.Fatalf("256 bytes have %d encodings", len(texts)-1)
	}
	for _, s := range shortStrings(allBytes(), 2) {
		want, valid := texts[s]
		if got, ok := impl.DecodeHex(s); got != want || ok != valid {
			t.Fatalf("DecodeHex(%q) = %q, %v, want %q, %v", s, got, ok, want, valid)
		}
	}
}

func TestDecodeHexRefuses(t *testing.T) {
	for _, s := range []string{
		"6", "61f", "61ff6", "61 ff", "61ff ", " 61ff", "61FF", "61fF", "0x61",
		"61zz", "zz61", "61g0", "610g", "-1", "+161", "61\n",
		"é", "é6161", "6é61", "61é", "6é1", "0é0", "٣٤", "😀", "61😀", "\uff11\uff11",
		"\xff\xff", "61\xff\xff", "6\xff", "\x00\x00", "6161\xc3",
	} {
		if got, ok := impl.DecodeHex(s); got != "" || ok {
			t.Errorf("DecodeHex(%q) = %q, %v, want an empty string and false", s, got, ok)
		}
	}
}

func TestFormatInt(t *testing.T) {
	cases := []struct {
		n    int
		want string
	}{
		{0, "0"},
		{7, "7"},
		{-7, "-7"},
		{10, "10"},
		{-120, "-120"},
		{999999999, "999999999"},
		{-1000000000, "-1000000000"},
		{math.MaxInt, "9223372036854775807"},
		{math.MinInt, "-9223372036854775808"},
		{math.MinInt + 1, "-9223372036854775807"},
	}
	for _, c := range cases {
		if got := impl.FormatInt(c.n); got != c.want {
			t.Errorf("FormatInt(%d) = %q, want %q", c.n, got, c.want)
		}
	}
	power := 1
	for range 19 {
		for _, n := range []int{power - 1, power, power + 1, -power, 1 - power} {
			if got, err := strconv.Atoi(impl.FormatInt(n)); got != n || err != nil {
				t.Errorf("FormatInt(%d) = %q", n, impl.FormatInt(n))
			}
		}
		power *= 10
	}
}

func TestParseInt(t *testing.T) {
	cases := []struct {
		s    string
		want int
	}{
		{"0", 0}, {"7", 7}, {"-7", -7}, {"10", 10}, {"-10", -10}, {"120", 120},
		{"99999999", 99999999}, {"100000000", 100000000}, {"-100000000", -100000000},
		{"123456789", 123456789}, {"-987654321", -987654321},
		{"999999999", 999999999}, {"-999999999", -999999999},
	}
	for _, c := range cases {
		if n, ok := impl.ParseInt(c.s); n != c.want || !ok {
			t.Errorf("ParseInt(%q) = %d, %v, want %d", c.s, n, ok, c.want)
		}
	}
	for power := 1; power <= 100000000; power *= 10 {
		for _, n := range []int{power - 1, power, power + 1, -power, 1 - power, -power - 1} {
			if got, ok := impl.ParseInt(impl.FormatInt(n)); got != n || !ok {
				t.Errorf("ParseInt(%q) = %d, %v", impl.FormatInt(n), got, ok)
			}
		}
	}
}

func TestParseIntOfEveryShortString(t *testing.T) {
	numbers := map[string]int{}
	for n := -999; n <= 9999; n++ {
		numbers[impl.FormatInt(n)] = n
	}
	for _, s := range shortStrings("-+0189./:_ex \x00\xff", 4) {
		want, valid := numbers[s]
		if n, ok := impl.ParseInt(s); n != want || ok != valid {
			t.Fatalf("ParseInt(%q) = %d, %v, want %d, %v", s, n, ok, want, valid)
		}
	}
}

func TestParseIntRefuses(t *testing.T) {
	for _, s := range []string{
		"", "-", "--", "+", "-0", "00", "-00", "01", "07", "-07", "000000000", "0000000001", "012345678",
		"1000000000", "-1000000000", "1234567890", "2147483648", "9999999999",
		"9223372036854775807", "-9223372036854775808", "18446744073709551616", "18446744073709551623",
		"+1", "--1", "-+1", "1-", "-1-", "1-2", " 1", "1 ", "1\n", "\t1", "1.0", "1e3", "0x1", "1_0", "1,000",
		"٣", "1٣", "\uff11", "-\uff11", "²", "−7", "1\xff", "\xff", "\x001", "a", "1a", "null",
		strings.Repeat("0", 1000), strings.Repeat("9", 1000), "-" + strings.Repeat("1", 1000),
	} {
		if n, ok := impl.ParseInt(s); n != 0 || ok {
			t.Errorf("ParseInt(%q) = %d, %v, want 0, false", s, n, ok)
		}
	}
}
