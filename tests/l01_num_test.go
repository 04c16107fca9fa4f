package tests

import (
	"math"
	"strings"
	"testing"

	"loop.example/g01920/impl"
)

func TestEncodeFixedWritesMostSignificantByteFirst(t *testing.T) {
	cases := []struct {
		n, width int
		want     string
	}{
		{258, 2, "\x01\x02"},
		{258, 3, "\x00\x01\x02"},
		{0, 1, "\x00"},
		{0, 7, "\x00\x00\x00\x00\x00\x00\x00"},
		{0x01020304050607, 7, "\x01\x02\x03\x04\x05\x06\x07"},
		{0xfffefdfc, 4, "\xff\xfe\xfd\xfc"},
	}
	for _, c := range cases {
		if got := impl.EncodeFixed(c.n, c.width); got != c.want {
			t.Errorf("EncodeFixed(%d, %d) = %q, want %q", c.n, c.width, got, c.want)
		}
	}
}

func TestEncodeFixedLimitOfEveryWidth(t *testing.T) {
	for width := 1; width <= 7; width++ {
		limit := 1<<(8*width) - 1
		if got, want := impl.EncodeFixed(limit, width), strings.Repeat("\xff", width); got != want {
			t.Errorf("EncodeFixed(%d, %d) = %q, want %q", limit, width, got, want)
		}
		for _, n := range []int{limit + 1, math.MaxInt, -1, -limit - 1, math.MinInt} {
			if got := impl.EncodeFixed(n, width); got != "" {
				t.Errorf("EncodeFixed(%d, %d) = %q, want no bytes", n, width, got)
			}
		}
	}
}

func TestFixedRejectsWidthsOutOfRange(t *testing.T) {
	s := strings.Repeat("\x01", 20)
	for _, width := range []int{0, 8, 9, 16, 64, -1, -7, math.MaxInt, math.MinInt} {
		for _, n := range []int{0, 1, 255, -1, math.MaxInt, math.MinInt} {
			if got := impl.EncodeFixed(n, width); got != "" {
				t.Errorf("EncodeFixed(%d, %d) = %q, want no bytes", n, width, got)
			}
		}
		if n, ok := impl.DecodeFixed(s, width); n != 0 || ok {
			t.Errorf("DecodeFixed(20 bytes, %d) = %d, %v, want 0, false", width, n, ok)
		}
		if n, ok := impl.DecodeFixed("", width); n != 0 || ok {
			t.Errorf("DecodeFixed(no bytes, %d) = %d, %v, want 0, false", width, n, ok)
		}
	}
}

func TestDecodeFixedIsTheInverse(t *testing.T) {
	for width := 1; width <= 7; width++ {
		for _, n := range numbersUpTo(1<<(8*width) - 1) {
			s := impl.EncodeFixed(n, width)
			if len(s) != width {
				t.Fatalf("EncodeFixed(%d, %d) has %d bytes", n, width, len(s))
			}
			for _, rest := range []string{"", "\x00", "\xff\xff"} {
				if got, ok := impl.DecodeFixed(s+rest, width); got != n || !ok {
					t.Errorf("DecodeFixed(%q, %d) = %d, %v, want %d, true", s+rest, width, got, ok, n)
				}
			}
			if got, ok := impl.DecodeFixed(s[:width-1], width); got != 0 || ok {
				t.Errorf("DecodeFixed(%q, %d) = %d, %v, want 0, false", s[:width-1], width, got, ok)
			}
		}
	}
}

func TestEncodeFixedIsTheInverse(t *testing.T) {
	for _, s := range stringsUpTo(2, allBytes()) {
		if s == "" {
			continue
		}
		n, ok := impl.DecodeFixed(s, len(s))
		if !ok || impl.EncodeFixed(n, len(s)) != s {
			t.Fatalf("DecodeFixed(%q, %d) = %d, %v", s, len(s), n, ok)
		}
	}
}

func TestEncodeVarintBytes(t *testing.T) {
	cases := []struct {
		n    int
		want string
	}{
		{0, "\x00"},
		{1, "\x01"},
		{127, "\x7f"},
		{128, "\x80\x01"},
		{300, "\xac\x02"},
		{16383, "\xff\x7f"},
		{16384, "\x80\x80\x01"},
		{impl.MaxVarint, "\xff\xff\xff\xff\xff\xff\x7f"},
	}
	for _, c := range cases {
		if got := impl.EncodeVarint(c.n); got != c.want {
			t.Errorf("EncodeVarint(%d) = %q, want %q", c.n, got, c.want)
		}
		if n, length := impl.DecodeVarint(c.want); n != c.n || length != len(c.want) {
			t.Errorf("DecodeVarint(%q) = %d, %d, want %d, %d", c.want, n, length, c.n, len(c.want))
		}
	}
}

func TestEncodeVarintLimitOfEveryLength(t *testing.T) {
	for length := 1; length <= 7; length++ {
		limit := 1<<(7*length) - 1
		if got := len(impl.EncodeVarint(limit)); got != length {
			t.Errorf("EncodeVarint(%d) has %d bytes, want %d", limit, got, length)
		}
		want := length + 1
		if limit == impl.MaxVarint {
			want = 0
		}
		if got := len(impl.EncodeVarint(limit + 1)); got != want {
			t.Errorf("EncodeVarint(%d) has %d bytes, want %d", limit+1, got, want)
		}
	}
}

func TestEncodeVarintRejectsNumbersOutOfRange(t *testing.T) {
	for _, n := range []int{impl.MaxVarint + 1, math.MaxInt, -1, -128, math.MinInt} {
		if got := impl.EncodeVarint(n); got != "" {
			t.Errorf("EncodeVarint(%d) = %q, want no bytes", n, got)
		}
	}
}

func TestDecodeVarintIsTheInverse(t *testing.T) {
	for _, n := range numbersUpTo(impl.MaxVarint) {
		s := impl.EncodeVarint(n)
		for _, rest := range []string{"", "\x00", "\x80", "\xff\x01"} {
			if got, length := impl.DecodeVarint(s + rest); got != n || length != len(s) {
				t.Errorf("DecodeVarint(%q) = %d, %d, want %d, %d", s+rest, got, length, n, len(s))
			}
		}
		for cut := range len(s) {
			expectNoVarint(t, s[:cut])
		}
	}
}

func TestDecodeVarintRejectsNeedlessBytes(t *testing.T) {
	for _, n := range numbersUpTo(impl.MaxVarint) {
		s := impl.EncodeVarint(n)
		last := len(s) - 1
		longer := s[:last] + string([]byte{s[last] | 128})
		for _, zeros := range []string{"\x00", "\x80\x00", "\x80\x80\x00"} {
			expectNoVarint(t, longer+zeros)
			expectNoVarint(t, longer+zeros+"\x01")
		}
	}
}

func TestDecodeVarintRejectsNumbersBeyondTheLimit(t *testing.T) {
	expectNoVarint(t, "\x80\x80\x80\x80\x80\x80\x80\x01")
	expectNoVarint(t, "\xff\xff\xff\xff\xff\xff\xff\x01")
	expectNoVarint(t, "\xff\xff\xff\xff\xff\xff\xff\x7f")
	expectNoVarint(t, strings.Repeat("\x80", 9)+"\x01")
	expectNoVarint(t, strings.Repeat("\x80", 10)+"\x01")
	expectNoVarint(t, strings.Repeat("\xff", 100)+"\x01")
}

func TestDecodeVarintOfEveryShortString(t *testing.T) {
	numbers := map[string]int{}
	for n := range 1 << 14 {
		numbers[impl.EncodeVarint(n)] = n
	}
	for _, s := range stringsUpTo(2, allBytes()) {
		wantN, wantLength := 0, 0
		for length := 1; length <= len(s); length++ {
			if n, ok := numbers[s[:length]]; ok {
				wantN, wantLength = n, length
			}
		}
		if n, length := impl.DecodeVarint(s); n != wantN || length != wantLength {
			t.Fatalf("DecodeVarint(%q) = %d, %d, want %d, %d", s, n, length, wantN, wantLength)
		}
	}
}

func TestEncodeHexDigits(t *testing.T) {
	cases := []struct{ s, want string }{
		{"", ""},
		{"a\xff", "61ff"},
		{"\x00", "00"},
		{"\x0f\xf0\xab\xcd\xef", "0ff0abcdef"},
		{"\x12\x34\x56\x78\x9a", "123456789a"},
		{"\u00e9", "c3a9"},
	}
	for _, c := range cases {
		if got := impl.EncodeHex(c.s); got != c.want {
			t.Errorf("EncodeHex(%q) = %q, want %q", c.s, got, c.want)
		}
		if got, ok := impl.DecodeHex(c.want); got != c.s || !ok {
			t.Errorf("DecodeHex(%q) = %q, %v, want %q, true", c.want, got, ok, c.s)
		}
	}
}

func TestDecodeHexOfEveryShortString(t *testing.T) {
	decoded := map[string]string{"": ""}
	for _, c := range allBytes() {
		decoded[impl.EncodeHex(string([]byte{c}))] = string([]byte{c})
	}
	if len(decoded) != 257 {
		t.Fatalf("EncodeHex writes %d strings for 256 bytes", len(decoded)-1)
	}
	for _, s := range stringsUpTo(2, allBytes()) {
		want, wantOK := decoded[s]
		if got, ok := impl.DecodeHex(s); got != want || ok != wantOK {
			t.Fatalf("DecodeHex(%q) = %q, %v, want %q, %v", s, got, ok, want, wantOK)
		}
	}
}

func TestDecodeHexIsTheInverse(t *testing.T) {
	all := string(allBytes())
	if got, ok := impl.DecodeHex(impl.EncodeHex(all)); got != all || !ok {
		t.Error("the 256 bytes are not decoded")
	}
	for _, s := range []string{"610", "61f", "61FF", "6g", "61 62", " 61", "61\n", "0x61", "61zz", "zz61"} {
		if got, ok := impl.DecodeHex(s); got != "" || ok {
			t.Errorf("DecodeHex(%q) = %q, %v, want none, false", s, got, ok)
		}
	}
}

func TestFormatIntAcceptsEveryInt(t *testing.T) {
	cases := []struct {
		n    int
		want string
	}{
		{0, "0"},
		{7, "7"},
		{-7, "-7"},
		{10, "10"},
		{-120, "-120"},
		{999999999, "999999999"},
		{1000000000, "1000000000"},
		{-1000000000, "-1000000000"},
		{math.MaxInt, "9223372036854775807"},
		{math.MinInt, "-9223372036854775808"},
	}
	for _, c := range cases {
		if got := impl.FormatInt(c.n); got != c.want {
			t.Errorf("FormatInt(%d) = %q, want %q", c.n, got, c.want)
		}
	}
}

func TestParseIntLimitOfDigits(t *testing.T) {
	for _, n := range []int{999999999, -999999999, 100000000, -100000000} {
		expectInt(t, impl.FormatInt(n), n, true)
	}
	for _, n := range []int{1000000000, -1000000000, math.MaxInt, math.MinInt} {
		expectInt(t, impl.FormatInt(n), 0, false)
	}
	expectInt(t, "9223372036854775808", 0, false)
	expectInt(t, "18446744073709551617", 0, false)
	expectInt(t, strings.Repeat("0", 30)+"1", 0, false)
}

func TestParseIntIsTheInverse(t *testing.T) {
	for _, n := range numbersUpTo(999999999) {
		expectInt(t, impl.FormatInt(n), n, true)
		expectInt(t, impl.FormatInt(-n), -n, true)
	}
}

func TestParseIntOfEveryShortString(t *testing.T) {
	numbers := map[string]int{}
	for n := -9999; n <= 9999; n++ {
		numbers[impl.FormatInt(n)] = n
	}
	for _, s := range stringsUpTo(4, []byte("0179-+ _.xe")) {
		n, ok := numbers[s]
		expectInt(t, s, n, ok)
	}
	for _, s := range stringsUpTo(2, allBytes()) {
		n, ok := numbers[s]
		expectInt(t, s, n, ok)
	}
}

func TestParseIntRejectsOtherFormats(t *testing.T) {
	for _, s := range []string{"", "-", "--7", "-0", "00", "07", "-07", "+7", " 7", "7 ", "7\n", "1_0", "0x7", "1e3", "7.0", "\u0667"} {
		expectInt(t, s, 0, false)
	}
}

func expectNoVarint(t *testing.T, s string) {
	t.Helper()
	if n, length := impl.DecodeVarint(s); n != 0 || length != 0 {
		t.Errorf("DecodeVarint(%q) = %d, %d, want 0, 0", s, n, length)
	}
}

func expectInt(t *testing.T, s string, want int, wantOK bool) {
	t.Helper()
	if n, ok := impl.ParseInt(s); n != want || ok != wantOK {
		t.Errorf("ParseInt(%q) = %d, %v, want %d, %v", s, n, ok, want, wantOK)
	}
}

// numbersUpTo returns numbers from 0 to limit, among them limit and the
// neighbours of every power of two, where the encodings get longer.
func numbersUpTo(limit int) []int {
	var numbers []int
	for n := range min(limit+1, 700) {
		numbers = append(numbers, n)
	}
	for power := 512; power <= limit; power *= 2 {
		numbers = append(numbers, power-1, power, power+power/3)
	}
	for power := 1000; power <= limit; power *= 10 {
		numbers = append(numbers, power-1, power, power+1)
	}
	var inRange []int
	for _, n := range append(numbers, limit-1, limit) {
		if n <= limit {
			inRange = append(inRange, n)
		}
	}
	return inRange
}

// stringsUpTo returns all strings of at most this length over the alphabet.
func stringsUpTo(length int, alphabet []byte) []string {
	all := []string{""}
	longest := all
	for range length {
		var longer []string
		for _, s := range longest {
			for _, c := range alphabet {
				longer = append(longer, s+string([]byte{c}))
			}
		}
		all = append(all, longer...)
		longest = longer
	}
	return all
}

func allBytes() []byte {
	var all []byte
	for c := range 256 {
		all = append(all, byte(c))
	}
	return all
}
