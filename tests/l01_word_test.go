package tests

import (
	"bytes"
	"fmt"
	"math"
	"slices"
	"strings"
	"testing"

	"loop.example/g00478/impl"
)

const (
	spareByte = 0xa5
	spareRoom = 16
)

// roomyOf has spare room behind its length, so that a function that writes or reads there is seen.
func roomyOf[T any](spare T, l ...T) []T {
	whole := slices.Concat(l, slices.Repeat([]T{spare}, spareRoom))
	return whole[: len(l) : len(l)+spareRoom]
}

func roomy(b ...byte) []byte {
	return roomyOf(byte(spareByte), b...)
}

func mustBeUntouchedOf[T comparable](t *testing.T, what string, spare T, l []T, was []T) {
	t.Helper()
	if !slices.Equal(l, was) {
		t.Errorf("%s: the argument is %v now, was %v", what, l, was)
	}
	room := l[len(l):cap(l)]
	if slices.ContainsFunc(room, func(x T) bool { return x != spare }) {
		t.Errorf("%s: the spare room is %v now", what, room)
	}
}

func mustBeUntouched(t *testing.T, what string, b []byte, was ...byte) {
	t.Helper()
	mustBeUntouchedOf(t, what, spareByte, b, was)
}

// scribble writes over an answer and the room behind it.
func scribble(answer []byte) {
	answer = answer[:cap(answer)]
	for i := range answer {
		answer[i] ^= 0xff
	}
}

// pattern: n bytes that differ from their neighbours, the high halves among them.
func pattern(n int) []byte {
	b := make([]byte, n)
	for i := range b {
		b[i] = byte(i*37 + 129)
	}
	return b
}

func numbers() []int {
	l := []int{0, 1, 2, 127, 128, 255, 256, 257, 258, 65535, 65536, 0x010203, 0x0a0b0c0d, 0x0102030405, 0x060504030201, -1, -2, -127, -128, -129, -255, -256, -257, -65536, -65537, -0x010203040506, math.MaxInt, math.MaxInt - 1, math.MinInt, math.MinInt + 1}
	for i := range 63 {
		l = append(l, 1<<i, 1<<i-1, 1<<i+1, -(1 << i), -(1<<i)-1)
	}
	return l
}

func TestPutNLaysTheLowestBitsHighestFirst(t *testing.T) {
	for _, c := range []struct {
		b    []byte
		n, k int
		want []byte
	}{
		{nil, 0, 1, []byte{0}},
		{nil, 0, 6, []byte{0, 0, 0, 0, 0, 0}},
		{[]byte{9}, 258, 2, []byte{9, 1, 2}},
		{[]byte{9, 8, 7}, 5, 1, []byte{9, 8, 7, 5}},
		{[]byte{}, 0x010203, 3, []byte{1, 2, 3}},
		{nil, 0x01020304, 4, []byte{1, 2, 3, 4}},
		{nil, 0x0102030405, 5, []byte{1, 2, 3, 4, 5}},
		{nil, 0x010203040506, 6, []byte{1, 2, 3, 4, 5, 6}},
		{nil, 255, 1, []byte{255}},
		{nil, 256, 1, []byte{0}},
		{nil, 257, 1, []byte{1}},
		{nil, 65536, 2, []byte{0, 0}},
		{nil, 1<<48 + 7, 6, []byte{0, 0, 0, 0, 0, 7}},
		{nil, 1<<48 - 1, 6, []byte{255, 255, 255, 255, 255, 255}},
		{nil, math.MaxInt, 6, []byte{255, 255, 255, 255, 255, 255}},
		{nil, math.MinInt, 6, []byte{0, 0, 0, 0, 0, 0}},
		{nil, -1, 1, []byte{255}},
		{nil, -1, 3, []byte{255, 255, 255}},
		{nil, -1, 6, []byte{255, 255, 255, 255, 255, 255}},
		{nil, -2, 2, []byte{255, 254}},
		{nil, -256, 2, []byte{255, 0}},
		{nil, -257, 1, []byte{255}},
		{nil, -257, 2, []byte{254, 255}},
		{[]byte{1}, -0x010203040506, 6, []byte{1, 0xfe, 0xfd, 0xfc, 0xfb, 0xfa, 0xfa}},
	} {
		if got := impl.PutN(c.b, c.n, c.k); !bytes.Equal(got, c.want) {
			t.Errorf("PutN(%x, %d, %d) is %x, not %x", c.b, c.n, c.k, got, c.want)
		}
	}
}

func TestPutNOfOtherSizesIsItsListAlone(t *testing.T) {
	for _, k := range []int{0, 7, 8, 9, 64, -1, -2, -6, math.MaxInt, math.MinInt, 1<<32 + 1} {
		for _, n := range []int{0, 5, -5, math.MaxInt} {
			if got := impl.PutN([]byte{9, 200}, n, k); !bytes.Equal(got, []byte{9, 200}) {
				t.Errorf("PutN(09c8, %d, %d) is %x", n, k, got)
			}
			if got := impl.PutN(nil, n, k); len(got) != 0 {
				t.Errorf("PutN of nothing, %d, %d is %x", n, k, got)
			}
		}
	}
}

// P1, for numbers: whatever fits in its bytes comes back, and of a greater one or one below 0 what the bytes hold.
func TestNumbersComeBackOfTheirBytes(t *testing.T) {
	for k := 1; k <= 6; k++ {
		size := uint64(1) << (8 * k)
		for _, n := range numbers() {
			for _, ahead := range []int{0, 1, 5, 300} {
				b := impl.PutN(pattern(ahead), n, k)
				if len(b) != ahead+k || !bytes.Equal(b[:ahead], pattern(ahead)) {
					t.Fatalf("PutN of %d bytes, %d, %d is %x", ahead, n, k, b)
				}
				got, next, ok := impl.GetN(b, ahead, k)
				if want := int(uint64(n) % size); !ok || got != want || next != ahead+k {
					t.Errorf("%d comes back of %d bytes as %d, %d, %v, not as %d", n, k, got, next, ok, want)
				}
			}
		}
	}
}

func TestGetNReadsWhereItIsTold(t *testing.T) {
	b := []byte{0, 1, 2, 0xff, 0xfe, 0xfd, 0xfc, 0x80, 0}
	for _, c := range []struct{ at, k, n, next int }{
		{0, 1, 0, 1},
		{1, 1, 1, 2},
		{1, 2, 258, 3},
		{0, 6, 0x000102fffefd, 6},
		{3, 1, 255, 4},
		{3, 4, 0xfffefdfc, 7},
		{3, 6, 0xfffefdfc8000, 9},
		{2, 3, 0x02fffe, 5},
		{4, 5, 0xfefdfc8000, 9},
		{8, 1, 0, 9},
		{7, 2, 0x8000, 9},
	} {
		if n, next, ok := impl.GetN(b, c.at, c.k); n != c.n || next != c.next || !ok {
			t.Errorf("GetN at %d of %d bytes is %d, %d, %v", c.at, c.k, n, next, ok)
		}
	}
}

func mustNotGet(t *testing.T, b []byte, at int, k int) {
	t.Helper()
	if n, next, ok := impl.GetN(b, at, k); n != 0 || next != 0 || ok {
		t.Errorf("GetN(%x, %d, %d) is %d, %d, %v", b, at, k, n, next, ok)
	}
}

func TestGetNRefusesOtherSizes(t *testing.T) {
	for _, k := range []int{0, 7, 8, 9, 10, -1, -6, math.MaxInt, math.MinInt, 1<<32 + 1} {
		for _, at := range []int{0, 1, 10, 11, -1} {
			mustNotGet(t, pattern(10), at, k)
		}
	}
}

// Spare room stands behind the list: a number that is cut must not go on there.
func TestGetNRefusesWhatIsNotAllThere(t *testing.T) {
	for length := range 9 {
		b := roomy(pattern(length)...)
		for k := 1; k <= 6; k++ {
			for at := -8; at <= 20; at++ {
				if at < 0 || at+k > length {
					mustNotGet(t, b, at, k)
				} else if _, next, ok := impl.GetN(b, at, k); !ok || next != at+k {
					t.Errorf("GetN of %d bytes at %d, %d is %d, %v", length, at, k, next, ok)
				}
			}
			for _, at := range []int{math.MaxInt, math.MaxInt - k, math.MaxInt - k + 1, math.MinInt, math.MinInt + k, 1 << 32, -(1 << 32)} {
				mustNotGet(t, b, at, k)
			}
		}
	}
	mustNotGet(t, nil, 0, 1)
	mustNotGet(t, nil, 0, 6)
}

func TestRotTurnsTheLowest32BitsToTheRight(t *testing.T) {
	for _, c := range []struct{ x, n, want int }{
		{0x12345678, 0, 0x12345678},
		{0x12345678, 4, 0x81234567},
		{0x12345678, 8, 0x78123456},
		{0x12345678, 16, 0x56781234},
		{0x12345678, 28, 0x23456781},
		{0x12345678, 31, 0x2468acf0},
		{1, 1, 0x80000000},
		{1, 31, 2},
		{0x80000000, 31, 1},
		{0x80000001, 1, 0xc0000000},
		{0, 7, 0},
		{0xffffffff, 13, 0xffffffff},
		{-1, 0, 0xffffffff},
		{-1, 8, 0xffffffff},
		{-2, 1, 0x7fffffff},
		{-2, 31, 0xfffffffd},
		{1 << 32, 5, 0},
		{1<<40 + 3, 0, 3},
		{1<<40 + 3, 1, 0x80000001},
		{math.MaxInt, 9, 0xffffffff},
		{math.MinInt, 9, 0},
		{math.MinInt + 1, 1, 0x80000000},
	} {
		if got := impl.Rot(c.x, c.n); got != c.want {
			t.Errorf("Rot(%#x, %d) is %#x, not %#x", c.x, c.n, got, c.want)
		}
	}
}

// A turn is held against one that moves bit by bit.
func TestRotMovesEachBit(t *testing.T) {
	for bit := range 32 {
		for n := range 32 {
			if got, want := impl.Rot(1<<bit, n), 1<<((bit+32-n)%32); got != want {
				t.Errorf("Rot(1<<%d, %d) is %#x, not %#x", bit, n, got, want)
			}
		}
	}
}

func TestRotByOtherNumbersTurnsNothing(t *testing.T) {
	for _, n := range []int{32, 33, 40, 63, 64, 65, 1<<32 + 1, math.MaxInt, -1, -7, -31, -32, -33, -64, math.MinInt} {
		for _, c := range []struct{ x, want int }{{5, 5}, {0x80000001, 0x80000001}, {-1, 0xffffffff}, {-2, 0xfffffffe}, {1<<40 + 3, 3}, {math.MinInt, 0}} {
			if got := impl.Rot(c.x, n); got != c.want {
				t.Errorf("Rot(%#x, %d) is %#x, not %#x", c.x, n, got, c.want)
			}
		}
	}
}

func TestAdd32KeepsTheLowest32BitsOfTheSum(t *testing.T) {
	for _, c := range []struct{ a, b, want int }{
		{0, 0, 0},
		{2, 3, 5},
		{0x7fffffff, 1, 0x80000000},
		{0xffffffff, 0, 0xffffffff},
		{0xffffffff, 1, 0},
		{0xffffffff, 2, 1},
		{0xffffffff, 0xffffffff, 0xfffffffe},
		{0x80000000, 0x80000000, 0},
		{-1, 0, 0xffffffff},
		{0, -1, 0xffffffff},
		{-1, -1, 0xfffffffe},
		{5, -7, 0xfffffffe},
		{7, -7, 0},
		{1 << 32, 9, 9},
		{9, 1<<40 + 1, 10},
		{math.MaxInt, 1, 0},
		{math.MaxInt, math.MaxInt, 0xfffffffe},
		{math.MinInt, -1, 0xffffffff},
		{math.MinInt, math.MinInt, 0},
	} {
		if got := impl.Add32(c.a, c.b); got != c.want {
			t.Errorf("Add32(%d, %d) is %#x, not %#x", c.a, c.b, got, c.want)
		}
	}
}

// The spare room again: what lies behind the length is not handed out.
func TestCutHandsOutWhatIsAllThere(t *testing.T) {
	for length := range 8 {
		b := roomy(pattern(length)...)
		for from := -3; from <= length+3; from++ {
			for n := -3; n <= length+3; n++ {
				got, ok := impl.Cut(b, from, n)
				if from >= 0 && n >= 0 && from+n <= length {
					if !ok || !bytes.Equal(got, pattern(length)[from:from+n]) {
						t.Errorf("Cut of %d bytes from %d, %d is %x, %v", length, from, n, got, ok)
					}
				} else if ok || len(got) != 0 {
					t.Errorf("Cut of %d bytes from %d, %d is %x, %v: they are not all there", length, from, n, got, ok)
				}
			}
		}
	}
}

func TestCutRefusesFarPlacesAndSizes(t *testing.T) {
	for _, c := range []struct{ from, n int }{
		{math.MaxInt, 0}, {math.MaxInt, 1}, {1, math.MaxInt}, {0, math.MaxInt}, {math.MaxInt, math.MaxInt},
		{math.MinInt, 0}, {math.MinInt, math.MinInt}, {0, math.MinInt}, {1, math.MinInt}, {-1, math.MinInt},
		{math.MinInt, math.MaxInt}, {math.MaxInt, math.MinInt}, {-1, 1}, {-1, 2}, {3, -1}, {4, -1}, {1 << 32, 0}, {0, 1 << 32},
	} {
		if got, ok := impl.Cut(roomy(1, 2, 3), c.from, c.n); ok || len(got) != 0 {
			t.Errorf("Cut from %d, %d is %x, %v", c.from, c.n, got, ok)
		}
	}
	if got, ok := impl.Cut(nil, 0, 0); !ok || len(got) != 0 {
		t.Errorf("Cut of nothing, 0 bytes from 0, is %x, %v", got, ok)
	}
	if got, ok := impl.Cut(nil, 0, 1); ok || len(got) != 0 {
		t.Errorf("Cut of nothing, a byte from 0, is %x, %v", got, ok)
	}
	if got, ok := impl.Cut([]byte{1, 2, 3}, 3, 0); !ok || len(got) != 0 {
		t.Errorf("Cut of 0 bytes at the end is %x, %v", got, ok)
	}
}

func TestHexTextHasTwoSmallDigitsOfEachByte(t *testing.T) {
	if impl.HexText(nil) != "" || impl.HexText([]byte{}) != "" {
		t.Error("of nothing there is a text")
	}
	if got := impl.HexText([]byte{0, 255, 16, 1, 0x9a, 0xbc, 0xde, 0xf0}); got != "00ff10019abcdef0" {
		t.Error(got)
	}
	for x := range 256 {
		if got, want := impl.HexText([]byte{byte(x)}), fmt.Sprintf("%02x", x); got != want {
			t.Errorf("%d is %q, not %q", x, got, want)
		}
	}
	for _, n := range []int{199, 200, 201, 1000, 5000} {
		if got, want := impl.HexText(pattern(n)), fmt.Sprintf("%x", pattern(n)); got != want {
			t.Errorf("of %d bytes: %q", n, got)
		}
	}
}

// P1, for bytes: up to 200 of them come back of their digits, and no more.
func TestBytesComeBackOfTheirDigits(t *testing.T) {
	for n := range 201 {
		got, ok := impl.ParseHex(impl.HexText(pattern(n)))
		if !ok || !bytes.Equal(got, pattern(n)) {
			t.Errorf("%d bytes come back as %x, %v", n, got, ok)
		}
	}
	for n := 201; n < 260; n++ {
		mustNotParse(t, impl.HexText(pattern(n)))
	}
	for x := range 256 {
		if got, ok := impl.ParseHex(impl.HexText([]byte{byte(x), byte(255 - x)})); !ok || !bytes.Equal(got, []byte{byte(x), byte(255 - x)}) {
			t.Errorf("%d and %d come back as %x, %v", x, 255-x, got, ok)
		}
	}
}

func mustNotParse(t *testing.T, s string) {
	t.Helper()
	if got, ok := impl.ParseHex(s); ok || len(got) != 0 {
		t.Errorf("ParseHex(%q) is %x, %v", s, got, ok)
	}
}

func TestParseHexReadsDigits(t *testing.T) {
	for s, want := range map[string]string{"": "", "00": "\x00", "0aff": "\x0a\xff", "0123456789abcdef": "\x01\x23\x45\x67\x89\xab\xcd\xef", "ff00": "\xff\x00", "0000": "\x00\x00"} {
		if got, ok := impl.ParseHex(s); !ok || string(got) != want {
			t.Errorf("ParseHex(%q) is %x, %v", s, got, ok)
		}
	}
}

func TestParseHexHasALimit(t *testing.T) {
	if got, ok := impl.ParseHex(strings.Repeat("e7", 200)); !ok || !bytes.Equal(got, bytes.Repeat([]byte{0xe7}, 200)) {
		t.Errorf("400 digits are %x, %v", got, ok)
	}
	if got, ok := impl.ParseHex(strings.Repeat("0", 398)); !ok || len(got) != 199 {
		t.Errorf("398 digits are %x, %v", got, ok)
	}
	for _, n := range []int{399, 401, 402, 403, 404, 500, 800, 4000} {
		mustNotParse(t, strings.Repeat("0", n))
	}
}

func TestParseHexRefusesAnOddNumberOfDigits(t *testing.T) {
	for n := 1; n <= 401; n += 2 {
		mustNotParse(t, strings.Repeat("a", n))
	}
}

// Each byte that is no digit is refused as the first and as the second one of a pair, at the ends and in between.
func TestParseHexRefusesWhatIsNoDigit(t *testing.T) {
	for x := range 256 {
		c := string([]byte{byte(x)})
		good := strings.Contains("0123456789abcdef", c)
		for _, s := range []string{c + "0", "0" + c, c + c, "00" + c + "0", "000" + c, c + "000", "00" + c + "000", "000" + c + "00"} {
			if good {
				if _, ok := impl.ParseHex(s); !ok {
					t.Errorf("ParseHex(%q) is refused", s)
				}
			} else {
				mustNotParse(t, s)
			}
		}
	}
	for _, s := range []string{"0A", "A0", "FF", "0a0F", "0x", "0x0a", "+1", "-1", "zz", "0g", "g0", " 0", "0 ", "0a ", "0a  ", "\n\n", "0a\n", "0_0a", "1.", "\x00\x00", "@0", "`0", "/0", ":0", "a`"} {
		mustNotParse(t, s)
	}
	mustNotParse(t, strings.Repeat("0", 399)+"g")
	mustNotParse(t, "G"+strings.Repeat("0", 399))
}

// Some of these runes have the lowest byte of a digit, some are digits elsewhere, some are no runes at all.
func TestParseHexRefusesTextBeyondASCII(t *testing.T) {
	for _, s := range []string{"\u00e9", "\u00e9\u00e9", "0\u00e9", "\u00e90", "a\u00e9b", "0\u00e90", "\u0130\u0131", "\u0161\u0162", "\u0130", "\u2130a", "1\u2130", "\uff10\uff11", "\u0660\u0661", "\u0967\u0968", "\U00010030", "\U0001d7ce0a", "\ufffd0", "0a\ufffd", "\ufeff0", "\xff\xff", "\x80", "\xc3", "0\xc3", "\xc30", "\xb0\xb1", "0a\xe1", "\xe2\x82", "\u20ac", "a\u20ac", "\u03b1\u03b2", "\u0430\u0431"} {
		mustNotParse(t, s)
	}
	mustNotParse(t, strings.Repeat("\u0130", 200))
	mustNotParse(t, strings.Repeat("\u0130", 400))
	mustNotParse(t, strings.Repeat("0", 398)+"\u00e9")
}

func TestNothingIsWrittenIntoAnArgument(t *testing.T) {
	for k := -1; k <= 8; k++ {
		b := roomy(1, 2, 3, 4, 5, 6, 7)
		impl.PutN(b, 0x112233445566, k)
		mustBeUntouched(t, "PutN", b, 1, 2, 3, 4, 5, 6, 7)
		empty := roomy()
		impl.PutN(empty, 0x112233445566, k)
		mustBeUntouched(t, "PutN of nothing", empty)
		for at := -1; at <= 8; at++ {
			impl.GetN(b, at, k)
			mustBeUntouched(t, "GetN", b, 1, 2, 3, 4, 5, 6, 7)
			impl.Cut(b, at, k)
			mustBeUntouched(t, "Cut", b, 1, 2, 3, 4, 5, 6, 7)
		}
		impl.HexText(b)
		mustBeUntouched(t, "HexText", b, 1, 2, 3, 4, 5, 6, 7)
	}
}

func TestAnAnswerSharesNoMemoryWithAnArgument(t *testing.T) {
	for k := -1; k <= 8; k++ {
		b := roomy(1, 2, 3)
		scribble(impl.PutN(b, 5, k))
		mustBeUntouched(t, "PutN, written over", b, 1, 2, 3)
		empty := roomy()
		scribble(impl.PutN(empty, 5, k))
		mustBeUntouched(t, "PutN of nothing, written over", empty)
		for from := -1; from <= 4; from++ {
			got, _ := impl.Cut(b, from, k)
			scribble(got)
			mustBeUntouched(t, "Cut, written over", b, 1, 2, 3)
		}
	}
	b := []byte{1, 2, 3}
	put, kept := impl.PutN(b, 7, 0), impl.PutN(b, 7, 1)
	cut, _ := impl.Cut(b, 0, 3)
	text := impl.HexText(b)
	scribble(b)
	if !bytes.Equal(put, []byte{1, 2, 3}) || !bytes.Equal(kept, []byte{1, 2, 3, 7}) || !bytes.Equal(cut, []byte{1, 2, 3}) || text != "010203" {
		t.Errorf("written with the argument: %x, %x, %x, %s", put, kept, cut, text)
	}
}

// Answers that were written over, or that grew, must not be seen in a later answer.
func TestAnswersShareNoMemoryWithEachOther(t *testing.T) {
	base := impl.PutN(nil, 0x0102, 2)
	left, right := impl.PutN(base, 3, 1), impl.PutN(base, 4, 1)
	if !bytes.Equal(left, []byte{1, 2, 3}) || !bytes.Equal(right, []byte{1, 2, 4}) || !bytes.Equal(base, []byte{1, 2}) {
		t.Errorf("two of one beginning: %x, %x, of %x", left, right, base)
	}
	for range 2 {
		parsed, ok := impl.ParseHex("0aff")
		if !ok || !bytes.Equal(parsed, []byte{10, 255}) {
			t.Errorf("0aff is %x, %v", parsed, ok)
		}
		scribble(parsed)
		put := impl.PutN([]byte{1}, 2, 6)
		if !bytes.Equal(put, []byte{1, 0, 0, 0, 0, 0, 2}) {
			t.Errorf("put %x", put)
		}
		scribble(put)
		cut, ok := impl.Cut([]byte{1, 2, 3}, 1, 2)
		if !ok || !bytes.Equal(cut, []byte{2, 3}) {
			t.Errorf("cut %x, %v", cut, ok)
		}
		scribble(cut)
	}
}
