package impl

import (
	"strconv"
	"strings"
)

const MaxVarint = 562949953421311

// One limit serves both formats: seven bytes are the greatest width, and
// MaxVarint, 2^49 - 1, fills seven groups of seven bits.
const maxNumberBytes = 7

const maxParsedDigits = 9

const hexDigits = "0123456789abcdef"

func EncodeFixed(n int, width int) string {
	if !isFixedWidth(width) || n < 0 || n>>(8*width) != 0 {
		return ""
	}
	out := make([]byte, width)
	for i := width - 1; i >= 0; i-- {
		out[i] = byte(n)
		n >>= 8
	}
	return string(out)
}

func DecodeFixed(s string, width int) (int, bool) {
	if !isFixedWidth(width) || len(s) < width {
		return 0, false
	}
	n := 0
	for i := range width {
		n = n<<8 | int(s[i])
	}
	return n, true
}

func isFixedWidth(width int) bool {
	return 1 <= width && width <= maxNumberBytes
}

func EncodeVarint(n int) string {
	if n < 0 || n > MaxVarint {
		return ""
	}
	var out []byte
	for n >= 128 {
		out = append(out, byte(n%128+128))
		n /= 128
	}
	return string(append(out, byte(n)))
}

func DecodeVarint(s string) (int, int) {
	n := 0
	for i := range min(len(s), maxNumberBytes) {
		n |= int(s[i]&127) << (7 * i)
		if s[i] >= 128 {
			continue
		}
		// A zero group at the end adds nothing, so a shorter varint encodes n.
		if s[i] == 0 && i > 0 {
			return 0, 0
		}
		return n, i + 1
	}
	return 0, 0
}

func EncodeHex(s string) string {
	out := make([]byte, 0, 2*len(s))
	for i := range len(s) {
		out = append(out, hexDigits[s[i]>>4], hexDigits[s[i]&15])
	}
	return string(out)
}

func DecodeHex(s string) (string, bool) {
	if len(s)%2 != 0 {
		return "", false
	}
	out := make([]byte, 0, len(s)/2)
	high := 0
	for i, r := range s {
		v := hexValue(r)
		if v < 0 {
			return "", false
		}
		// Every rune before this one was a digit of one byte, so i counts digits.
		if i%2 == 0 {
			high = v
		} else {
			out = append(out, byte(high<<4|v))
		}
	}
	return string(out), true
}

func hexValue(r rune) int {
	switch {
	case '0' <= r && r <= '9':
		return int(r - '0')
	case 'a' <= r && r <= 'f':
		return int(r-'a') + 10
	}
	return -1
}

func FormatInt(n int) string {
	return strconv.Itoa(n)
}

func ParseInt(s string) (int, bool) {
	digits, negative := strings.CutPrefix(s, "-")
	if len(digits) > maxParsedDigits {
		return 0, false
	}
	n := 0
	for _, r := range digits {
		if r < '0' || r > '9' {
			return 0, false
		}
		n = 10*n + int(r-'0')
	}
	if negative {
		n = -n
	}
	// Formatting again refuses no digits, leading zeros and -0 alike.
	if FormatInt(n) != s {
		return 0, false
	}
	return n, true
}
