package impl

import (
	"strconv"
	"strings"
)

const MaxVarint = 562949953421311

const (
	maxFixedWidth  = 7
	maxVarintBytes = 7
	maxIntDigits   = 9
	hexDigits      = "0123456789abcdef"
)

func isFixedWidth(width int) bool {
	return width >= 1 && width <= maxFixedWidth
}

func EncodeFixed(n int, width int) string {
	if !isFixedWidth(width) || n < 0 || n>>(8*width) != 0 {
		return ""
	}
	b := make([]byte, width)
	for i := range b {
		b[width-1-i] = byte(n >> (8 * i))
	}
	return string(b)
}

func DecodeFixed(s string, width int) (int, bool) {
	if !isFixedWidth(width) || len(s) < width {
		return 0, false
	}
	n := 0
	for i := range width {
		n = n<<8 | int(s[i])
	}
	return n, true
}

func EncodeVarint(n int) string {
	if n < 0 || n > MaxVarint {
		return ""
	}
	b := make([]byte, 0, maxVarintBytes)
	for n > 127 {
		b = append(b, byte(n&127|128))
		n >>= 7
	}
	return string(append(b, byte(n)))
}

func DecodeVarint(s string) (int, int) {
	n := 0
	for i := 0; i < len(s) && i < maxVarintBytes; i++ {
		n |= int(s[i]&127) << (7 * i)
		if s[i] >= 128 {
			continue
		}
		// Encoding again rejects a varint with unnecessary bytes.
		if EncodeVarint(n) != s[:i+1] {
			return 0, 0
		}
		return n, i + 1
	}
	return 0, 0
}

func EncodeHex(s string) string {
	b := make([]byte, 0, 2*len(s))
	// A range over s would merge bytes that happen to form one character.
	for i := range len(s) {
		b = append(b, hexDigits[s[i]>>4], hexDigits[s[i]&15])
	}
	return string(b)
}

func DecodeHex(s string) (string, bool) {
	if len(s)%2 != 0 {
		return "", false
	}
	b := make([]byte, 0, len(s)/2)
	high := 0
	// The digits have one byte each, so i counts the digits before this one.
	for i, digit := range s {
		half := strings.IndexRune(hexDigits, digit)
		if half < 0 {
			return "", false
		}
		if i%2 == 0 {
			high = half
		} else {
			b = append(b, byte(16*high+half))
		}
	}
	return string(b), true
}

func FormatInt(n int) string {
	return strconv.Itoa(n)
}

func ParseInt(s string) (int, bool) {
	digits := strings.TrimPrefix(s, "-")
	// The limit also keeps n from overflowing.
	if len(digits) > maxIntDigits {
		return 0, false
	}
	n := 0
	for _, digit := range digits {
		if digit < '0' || digit > '9' {
			return 0, false
		}
		n = 10*n + int(digit-'0')
	}
	if len(digits) < len(s) {
		n = -n
	}
	// Formatting again rejects leading zeros, -0 and the lack of any digit.
	if FormatInt(n) != s {
		return 0, false
	}
	return n, true
}
