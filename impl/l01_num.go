package impl

import (
	"strconv"
	"strings"
)

const MaxVarint = 562949953421311

const maxFixedWidth = 7
const maxVarintBytes = 7
const maxParsedDigits = 9

const hexDigits = "0123456789abcdef"

// EncodeFixed returns n as width bytes, most significant byte first, or "" if
// width is out of range or n does not fit.
func EncodeFixed(n int, width int) string {
	if !isFixedWidth(width) || n < 0 || n>>(8*width) != 0 {
		return ""
	}
	encoded := make([]byte, width)
	for i := range encoded {
		encoded[i] = byte(n >> (8 * (width - 1 - i)))
	}
	return string(encoded)
}

// DecodeFixed reads a number from the first width bytes of s. Bytes after
// these are ignored.
func DecodeFixed(s string, width int) (int, bool) {
	if !isFixedWidth(width) || len(s) < width {
		return 0, false
	}
	n := 0
	for i := range width {
		n = n<<8 | int(s[i])
	}
	return n, true
}

func isFixedWidth(width int) bool {
	return width >= 1 && width <= maxFixedWidth
}

// EncodeVarint returns n as a LEB128 varint, or "" if n is out of range.
func EncodeVarint(n int) string {
	if n < 0 || n > MaxVarint {
		return ""
	}
	var encoded []byte
	for n > 127 {
		encoded = append(encoded, byte(n&127|128))
		n >>= 7
	}
	return string(append(encoded, byte(n)))
}

// DecodeVarint reads the varint at the beginning of s and returns its value
// and its length, or 0 and 0 if there is none.
func DecodeVarint(s string) (int, int) {
	n := 0
	for i := range min(len(s), maxVarintBytes) {
		n |= int(s[i]&127) << (7 * i)
		if s[i] >= 128 {
			continue
		}
		// A last byte of 0 adds nothing, so EncodeVarint never writes it
		// after another byte.
		if s[i] == 0 && i > 0 {
			return 0, 0
		}
		return n, i + 1
	}
	return 0, 0
}

// EncodeHex returns two lowercase hexadecimal digits for each byte of s.
func EncodeHex(s string) string {
	encoded := make([]byte, 0, 2*len(s))
	for i := range len(s) {
		encoded = append(encoded, hexDigits[s[i]>>4], hexDigits[s[i]&15])
	}
	return string(encoded)
}

// DecodeHex is the inverse of EncodeHex. Uppercase digits are not accepted,
// because EncodeHex does not write them.
func DecodeHex(s string) (string, bool) {
	if len(s)%2 != 0 {
		return "", false
	}
	decoded := make([]byte, 0, len(s)/2)
	for i := 0; i < len(s); i += 2 {
		high := strings.IndexByte(hexDigits, s[i])
		low := strings.IndexByte(hexDigits, s[i+1])
		if high < 0 || low < 0 {
			return "", false
		}
		decoded = append(decoded, byte(high<<4|low))
	}
	return string(decoded), true
}

// FormatInt returns n in decimal.
func FormatInt(n int) string {
	return strconv.Itoa(n)
}

// ParseInt is the inverse of FormatInt for numbers of at most 9 digits.
func ParseInt(s string) (int, bool) {
	if len(strings.TrimPrefix(s, "-")) > maxParsedDigits {
		return 0, false
	}
	n, err := strconv.Atoi(s)
	// Atoi also reads forms that FormatInt does not write: +1, 01 and -0.
	if err != nil || FormatInt(n) != s {
		return 0, false
	}
	return n, true
}
