package tests

import (
	"bytes"
	"encoding/binary"
	"fmt"
	"math"
	"regexp"
	"slices"
	"strconv"
	"strings"
	"testing"

	"loop.example/g00478/impl"
)

const bytesOfAnAddr = 6

func addr(host int, port int) impl.Addr {
	return impl.Addr{Host: host, Port: port}
}

// addrBytesOf, addrTextOf: what the chapter says, the library's way, of an address that is right.
func addrBytesOf(a impl.Addr) []byte {
	return binary.BigEndian.AppendUint16(binary.BigEndian.AppendUint32(nil, uint32(a.Host)), uint16(a.Port))
}

func addrTextOf(a impl.Addr) string {
	return fmt.Sprintf("%d.%d.%d.%d:%d", a.Host>>24, a.Host>>16&255, a.Host>>8&255, a.Host&255, a.Port)
}

var addrForm = regexp.MustCompile(`\A(0|[1-9][0-9]*)\.(0|[1-9][0-9]*)\.(0|[1-9][0-9]*)\.(0|[1-9][0-9]*):(0|[1-9][0-9]*)\z`)

// addrOfText: which address a text is of, told part by part.
func addrOfText(s string) (impl.Addr, bool) {
	parts := addrForm.FindStringSubmatch(s)
	if parts == nil {
		return impl.Addr{}, false
	}
	host := uint64(0)
	for _, part := range parts[1:5] {
		x, err := strconv.ParseUint(part, 10, 8)
		if err != nil {
			return impl.Addr{}, false
		}
		host = host*256 + x
	}
	port, err := strconv.ParseUint(parts[5], 10, 16)
	if err != nil {
		return impl.Addr{}, false
	}
	return addr(int(host), int(port)), true
}

func someHosts() []int {
	return []int{0, 1, 2, 9, 10, 99, 100, 127, 128, 255, 256, 257, 65535, 65536, 0x010203, 1<<24 - 1, 1 << 24, 1<<24 + 1, 0x01020304, 0x0a000007, 0x7f000001, 1<<31 - 1, 1 << 31, 0xc0a80001, 0xff000102, 0xff00ff00, 0x00ff00ff, 1<<32 - 2, 1<<32 - 1}
}

func somePorts() []int {
	return []int{0, 1, 9, 10, 11, 99, 100, 101, 255, 256, 257, 999, 1000, 7007, 9999, 10000, 32767, 32768, 65534, 65535}
}

// rightAddrs: each host with each port, and all of Near, by their numbers.
func rightAddrs() []impl.Addr {
	l := []impl.Addr{}
	for _, host := range someHosts() {
		for _, port := range somePorts() {
			l = append(l, addr(host, port))
		}
	}
	for i := range 256 {
		l = append(l, addr(10*16777216+i, 7000+i))
	}
	return l
}

// wrongAddrs: one number is wrong, or both are; cut to their bits most would be right.
func wrongAddrs() []impl.Addr {
	l := []impl.Addr{}
	for _, host := range []int{-1, -2, -255, -256, -(1 << 31), -(1 << 32), -(1 << 32) + 1, 1 << 32, 1<<32 + 1, 1<<32 + 0x0a000007, 1 << 33, 1<<40 + 7, 1 << 48, math.MaxInt, math.MinInt, math.MinInt + 1} {
		for _, port := range []int{-1, 0, 1, 7007, 65535, 65536} {
			l = append(l, addr(host, port))
		}
	}
	for _, port := range []int{-1, -2, -7007, -32768, -65535, -65536, 65536, 65537, 65536 + 7007, 70000, 131072, 1 << 32, 1<<32 + 7007, math.MaxInt, math.MinInt, math.MinInt + 1} {
		for _, host := range []int{-1, 0, 1, 0x0a000007, 1<<32 - 1, 1 << 32} {
			l = append(l, addr(host, port))
		}
	}
	return l
}

func mustGetAddr(t *testing.T, b []byte, at int, want impl.Addr) {
	t.Helper()
	if a, next, ok := impl.GetAddr(b, at); a != want || next != at+bytesOfAnAddr || !ok {
		t.Errorf("GetAddr of %x at %d is %v, %d, %v, not %v", b, at, a, next, ok, want)
	}
}

func mustNotGetAddr(t *testing.T, b []byte, at int) {
	t.Helper()
	if a, next, ok := impl.GetAddr(b, at); a != (impl.Addr{}) || next != 0 || ok {
		t.Errorf("GetAddr of %x at %d is %v, %d, %v", b, at, a, next, ok)
	}
}

func mustParseAddr(t *testing.T, s string, want impl.Addr) {
	t.Helper()
	if a, ok := impl.ParseAddr(s); a != want || !ok {
		t.Errorf("ParseAddr of %q is %v, %v, not %v", s, a, ok, want)
	}
}

func mustNotParseAddr(t *testing.T, s string) {
	t.Helper()
	if a, ok := impl.ParseAddr(s); a != (impl.Addr{}) || ok {
		t.Errorf("ParseAddr of %q is %v, %v", s, a, ok)
	}
}

// mustReadAsTold: by what addrOfText says of the same text.
func mustReadAsTold(t *testing.T, s string) {
	t.Helper()
	if want, ok := addrOfText(s); ok {
		mustParseAddr(t, s, want)
	} else {
		mustNotParseAddr(t, s)
	}
}

// P6, of bytes: alone, and behind bytes and ahead of others.
func TestAddrsComeBackOfTheirBytes(t *testing.T) {
	for _, a := range rightAddrs() {
		for _, ahead := range []int{0, 1, 5, 6, 300} {
			b := impl.PutAddr(pattern(ahead), a)
			if want := slices.Concat(pattern(ahead), addrBytesOf(a)); !bytes.Equal(b, want) {
				t.Fatalf("PutAddr of %d bytes and %v is %x, not %x", ahead, a, b, want)
			}
			mustGetAddr(t, b, ahead, a)
			mustGetAddr(t, append(b, 0xff, 0, 1), ahead, a)
		}
	}
}

// P6, of texts.
func TestAddrsComeBackOfTheirTexts(t *testing.T) {
	for _, a := range rightAddrs() {
		text := impl.AddrText(a)
		if want := addrTextOf(a); text != want {
			t.Errorf("AddrText of %v is %q, not %q", a, text, want)
		}
		mustParseAddr(t, text, a)
	}
}

// P6, of every byte at each of the host's four places, and of every port.
func TestEachByteAndEachPortComesBack(t *testing.T) {
	for x := range 256 {
		for shift := 0; shift < 32; shift += 8 {
			for _, rest := range []int{0, 0x01020304, 0xffffffff} {
				a := addr(rest&^(255<<shift)|x<<shift, x)
				mustParseAddr(t, impl.AddrText(a), a)
				mustGetAddr(t, impl.PutAddr(nil, a), 0, a)
			}
		}
	}
	for port := range 65536 {
		a := addr(0x0a000007, port)
		mustParseAddr(t, impl.AddrText(a), a)
		mustGetAddr(t, impl.PutAddr(nil, a), 0, a)
	}
}

// What is read comes back as well: each six bytes are an address's, and no two addresses have one text.
func TestBytesComeBackOfTheirAddr(t *testing.T) {
	met := map[string]impl.Addr{}
	for from := range 256 {
		b := counted(byte(from), 40)
		for at := range len(b) - bytesOfAnAddr + 1 {
			a, _, ok := impl.GetAddr(b, at)
			if !ok || !impl.AddrOk(a) || !bytes.Equal(impl.PutAddr(nil, a), b[at:at+bytesOfAnAddr]) {
				t.Errorf("%x is read as %v, %v", b[at:at+bytesOfAnAddr], a, ok)
			}
			if was, ok := met[impl.AddrText(a)]; ok && was != a {
				t.Errorf("%v and %v have the text %q", was, a, impl.AddrText(a))
			}
			met[impl.AddrText(a)] = a
		}
	}
}

func TestKnownAddrs(t *testing.T) {
	for _, c := range []struct {
		a         impl.Addr
		hex, text string
	}{
		{impl.Addr{}, "000000000000", "0.0.0.0:0"},
		{addr(1, 1), "000000010001", "0.0.0.1:1"},
		{addr(255, 9), "000000ff0009", "0.0.0.255:9"},
		{addr(256, 10), "00000100000a", "0.0.1.0:10"},
		{addr(1<<24-1, 65535), "00ffffffffff", "0.255.255.255:65535"},
		{addr(1<<24, 0), "010000000000", "1.0.0.0:0"},
		{addr(1<<32-1, 65535), "ffffffffffff", "255.255.255.255:65535"},
		{addr(0x0a000007, 7007), "0a0000071b5f", "10.0.0.7:7007"},
		{addr(0x01020304, 0x0506), "010203040506", "1.2.3.4:1286"},
		{addr(0x80c0e0f0, 32768), "80c0e0f08000", "128.192.224.240:32768"},
	} {
		if got := fmt.Sprintf("%x", impl.PutAddr(nil, c.a)); got != c.hex {
			t.Errorf("PutAddr of %v is %s, not %s", c.a, got, c.hex)
		}
		if got := impl.AddrText(c.a); got != c.text {
			t.Errorf("AddrText of %v is %q, not %q", c.a, got, c.text)
		}
		mustParseAddr(t, c.text, c.a)
	}
}

func TestAddrOkAtItsEdges(t *testing.T) {
	for _, host := range []int{-1, 0, 1, 1<<32 - 1, 1 << 32} {
		for _, port := range []int{-1, 0, 1, 65535, 65536} {
			want := host >= 0 && host <= 4294967295 && port >= 0 && port <= 65535
			if got := impl.AddrOk(addr(host, port)); got != want {
				t.Errorf("AddrOk of %d and %d is %v", host, port, got)
			}
		}
	}
	for _, a := range rightAddrs() {
		if !impl.AddrOk(a) {
			t.Errorf("%v is not right", a)
		}
	}
}

func TestWrongAddrsAreRefused(t *testing.T) {
	for _, a := range wrongAddrs() {
		if impl.AddrOk(a) {
			t.Errorf("%v is right", a)
		}
		if got := impl.AddrText(a); got != "" {
			t.Errorf("AddrText of %v is %q", a, got)
		}
		for _, n := range []int{0, 1, 6, 100} {
			if got := impl.PutAddr(roomy(pattern(n)...), a); !bytes.Equal(got, pattern(n)) {
				t.Errorf("PutAddr of %d bytes and %v is %x", n, a, got)
			}
		}
		if got := impl.PutAddr(nil, a); len(got) != 0 {
			t.Errorf("PutAddr of nothing and %v is %x", a, got)
		}
	}
}

func TestGetAddrReadsAtEachPlace(t *testing.T) {
	for _, a := range []impl.Addr{addr(0x0a000007, 7007), addr(0x01020304, 0x0506), addr(1<<32-1, 65535), {}} {
		for ahead := range 20 {
			for behind := range 8 {
				b := slices.Concat(pattern(ahead), impl.PutAddr(nil, a), counted(200, behind))
				mustGetAddr(t, roomy(b...), ahead, a)
			}
		}
	}
	b := counted(1, 9)
	for at, want := range []impl.Addr{addr(0x01020304, 0x0506), addr(0x02030405, 0x0607), addr(0x03040506, 0x0708), addr(0x04050607, 0x0809)} {
		mustGetAddr(t, b, at, want)
	}
}

func TestAddrsOneBehindTheOther(t *testing.T) {
	b := []byte{}
	for _, a := range rightAddrs() {
		b = impl.PutAddr(b, a)
	}
	at := 0
	for _, want := range rightAddrs() {
		a, next, ok := impl.GetAddr(b, at)
		if a != want || next != at+bytesOfAnAddr || !ok {
			t.Fatalf("at %d there is %v, %d, %v, not %v", at, a, next, ok, want)
		}
		at = next
	}
	mustNotGetAddr(t, b, at)
}

// Spare room stands behind the list: an address that is cut must not go on there.
func TestGetAddrRefusesWhatIsNotAllThere(t *testing.T) {
	for length := range 20 {
		b := roomy(pattern(length)...)
		for at := -12; at <= 40; at++ {
			if at < 0 || at > length-bytesOfAnAddr {
				mustNotGetAddr(t, b, at)
			} else {
				mustGetAddr(t, b, at, addr(int(binary.BigEndian.Uint32(b[at:])), int(binary.BigEndian.Uint16(b[at+4:]))))
			}
		}
		for _, at := range []int{math.MaxInt, math.MaxInt - 1, math.MaxInt - 5, math.MaxInt - 6, math.MinInt, math.MinInt + 1, math.MinInt + 6, 1 << 32, 1<<32 + 1, -(1 << 32)} {
			mustNotGetAddr(t, b, at)
		}
	}
	mustNotGetAddr(t, nil, 0)
	mustNotGetAddr(t, nil, -1)
	mustNotGetAddr(t, nil, -bytesOfAnAddr)
	mustNotGetAddr(t, []byte{}, 0)
}

func TestParseAddrRefusesNeedlessNoughts(t *testing.T) {
	for _, s := range []string{
		"00.0.0.0:0", "0.00.0.0:0", "0.0.00.0:0", "0.0.0.00:0", "0.0.0.0:00", "0.0.0.0:000000",
		"010.0.0.7:7007", "10.00.0.7:7007", "10.0.00.7:7007", "10.0.0.07:7007", "10.0.0.7:07007", "10.0.0.007:7007", "10.0.0.7:007007",
		"0001.2.3.4:5", "1.2.3.4:00005", "1.2.3.0255:5", "01.02.03.04:05", "0255.255.255.255:065535",
	} {
		mustNotParseAddr(t, s)
	}
	for _, a := range rightAddrs() {
		text := addrTextOf(a)
		starts := []int{0}
		for i, r := range text {
			if r == '.' || r == ':' {
				starts = append(starts, i+1)
			}
		}
		for _, at := range starts {
			for _, noughts := range []string{"0", "00", "00000000000000000000"} {
				mustNotParseAddr(t, text[:at]+noughts+text[at:])
			}
		}
	}
}

func TestParseAddrRefusesSignsAndBlanks(t *testing.T) {
	text := "10.0.0.7:7007"
	for at := range len(text) + 1 {
		for _, more := range []string{"+", "-", " ", "\t", "\n", "\r", "\x00", "_", "'", ",", "  "} {
			mustNotParseAddr(t, text[:at]+more+text[at:])
		}
	}
	for _, s := range []string{"-0.0.0.0:0", "0.0.0.0:-0", "+1.2.3.4:5", "1.2.3.4:+5", "1.2.3.-4:5", "1.-2.3.4:5", " 1.2.3.4:5", "1.2.3.4:5 ", "1.2.3.4 :5", "1.2.3.4: 5", "1. 2.3.4:5", "1 2 3 4 5", "-1.-2.-3.-4:-5", "-10.0.0.7:7007"} {
		mustNotParseAddr(t, s)
	}
}

func TestParseAddrRefusesOtherForms(t *testing.T) {
	for _, s := range []string{
		"", ".", ":", "...", "...:", "....:", "1", "1:", ":1", "1:2", "1.2", "1.2:3", "1.2.3", "1.2.3:4", "1.2.3.4", "1.2.3.4.", "1.2.3.4:", "1.2.3.4.5", "1.2.3.4.5:6", "1.2.3.4:5:6", "1.2.3.4:5.6", "1.2.3.4:5.", "1.2.3.4:5:", ".1.2.3.4:5", ":1.2.3.4:5",
		"1:2:3:4:5", "1:2.3.4.5", "1.2:3.4.5", "1.2.3:4.5", "1.2.3:4:5", "1:2:3:4.5", "1.2.3.4.5", "1.2.3.4;5", "1,2,3,4:5", "1.2.3.4/5", "1.2.3.4::5", "1..2.3.4:5", "1.2..3:4", "1.2.3..4:5", "1.2.3.4.:5",
		".2.3.4:5", "1..3.4:5", "1.2..4:5", "1.2.3.:5", "1.2.3.4:", "...:5", "1...:5", ".2..:5", "0...:0",
		"[1.2.3.4]:5", "1.2.3.4:5#", "0x1.2.3.4:5", "1.2.3.4:0x5", "a.b.c.d:e", "1.2.3.a:5", "1.2.3.4:f", "f.f.f.f:f", "1e1.2.3.4:5", "16909060:5", "localhost:5", "::1", "10.0.0.7:7007\n", "10.0.0.7:7007\x00",
		"10.0.0.7:7007 10.0.0.7:7007", "10.0.0.7:700710.0.0.7:7007", strings.Repeat("1.", 100), strings.Repeat(":", 100), strings.Repeat("1.2.3.4:5", 1000),
	} {
		mustNotParseAddr(t, s)
	}
}

// 2^32, 2^63 and 2^64, and these with a right number more: what runs over must not be taken for what is left.
func TestParseAddrRefusesNumbersThatAreTooGreat(t *testing.T) {
	tooGreat := []string{"256", "257", "260", "300", "512", "999", "1000", "2560", "65535", "65536", "65541", "99999", "100000", "655350", "4294967295", "4294967296", "4294967301", "9223372036854775807", "9223372036854775808", "9223372036854775813", "18446744073709551615", "18446744073709551616", "18446744073709551621", "18446744073709551871", "340282366920938463463374607431768211456", "340282366920938463463374607431768211461", strings.Repeat("9", 1000), "1" + strings.Repeat("0", 1000)}
	for _, x := range tooGreat {
		for i := range 4 {
			parts := []string{"1", "2", "3", "4"}
			parts[i] = x
			mustNotParseAddr(t, strings.Join(parts, ".")+":5")
			parts = []string{"0", "0", "0", "0"}
			parts[i] = x
			mustNotParseAddr(t, strings.Join(parts, ".")+":0")
		}
		mustReadAsTold(t, "1.2.3.4:"+x)
		mustReadAsTold(t, "0.0.0.0:"+x)
		mustNotParseAddr(t, "255.255.255.255:65535"+x)
		mustNotParseAddr(t, x)
	}
	for _, s := range []string{"255.255.255.255:65536", "256.255.255.255:65535", "255.255.255.256:65535", "1.2.3.256:5", "1.2.3.4:65536", "1.2.3.4:65541", "255.255.255.255:655350", "0.0.0.4294967295:0", "1.2.3.4:18446744073709551621"} {
		mustNotParseAddr(t, s)
	}
}

func TestParseAddrAtItsEdges(t *testing.T) {
	for x := range 1200 {
		for _, form := range []string{"%d.2.3.4:5", "1.%d.3.4:5", "1.2.%d.4:5", "1.2.3.%d:5", "%d.0.0.0:0", "0.%d.0.0:0", "0.0.%d.0:0", "0.0.0.%d:0"} {
			s := fmt.Sprintf(form, x)
			mustReadAsTold(t, s)
			if _, ok := impl.ParseAddr(s); ok != (x <= 255) {
				t.Errorf("ParseAddr of %q is %v", s, ok)
			}
		}
	}
	for port := 65000; port < 66000; port++ {
		for _, form := range []string{"0.0.0.0:%d", "10.0.0.7:%d", "255.255.255.255:%d"} {
			s := fmt.Sprintf(form, port)
			mustReadAsTold(t, s)
			if _, ok := impl.ParseAddr(s); ok != (port <= 65535) {
				t.Errorf("ParseAddr of %q is %v", s, ok)
			}
		}
	}
}

// Digits of other scripts, marks that look like dots and colons, a byte order mark, and bytes that are no UTF-8.
func TestParseAddrRefusesTextBeyondASCII(t *testing.T) {
	for _, s := range []string{"\u0661.2.3.4:5", "1.2.3.4:\u0665", "\uff11.\uff12.\uff13.\uff14:\uff15", "1\uff0e2\uff0e3\uff0e4:5", "1.2.3.4\uff1a5", "1\u30022.3.4:5", "1.2.3.4:\u00b2", "\ufeff1.2.3.4:5", "1.2.3.4:5\u200b", "1.2.3.4:5\u0301", "1.2.3.\U0001d7d24:5", "\u00e9", "\ufffd"} {
		mustNotParseAddr(t, s)
	}
	text := "10.0.0.7:7007"
	for at := range len(text) + 1 {
		for _, more := range []string{"\x80", "\xff", "\xfe", "\xc3", "\xe2\x82", "\xc0\xb0", "\xc0\xae", "\xed\xa0\x80", "\xf4\x90\x80\x80", "\ufffd", "\u0660", "\u00e9"} {
			mustNotParseAddr(t, text[:at]+more+text[at:])
			if at < len(text) {
				mustNotParseAddr(t, text[:at]+more+text[at+1:])
			}
		}
	}
}

// bendings: every text that has one byte more, one less, or another one; two that changed places; and each beginning and end.
func bendings(text string) []string {
	l := []string{}
	for at := range len(text) + 1 {
		for x := range 256 {
			one := string([]byte{byte(x)})
			l = append(l, text[:at]+one+text[at:])
			if at < len(text) {
				l = append(l, text[:at]+one+text[at+1:])
			}
		}
		l = append(l, text[:at], text[at:], text[at:]+text[:at])
		if at < len(text) {
			l = append(l, text[:at]+text[at+1:])
		}
		for other := range at {
			if at < len(text) {
				swapped := []byte(text)
				swapped[at], swapped[other] = swapped[other], swapped[at]
				l = append(l, string(swapped))
			}
		}
	}
	return l
}

func TestBentTextsAreReadAsTold(t *testing.T) {
	for _, text := range []string{"0.0.0.0:0", "1.2.3.4:5", "10.0.0.7:7007", "9.10.99.100:999", "25.26.249.250:6553", "255.255.255.255:65535"} {
		mustReadAsTold(t, text)
		for _, s := range bendings(text) {
			mustReadAsTold(t, s)
		}
	}
}

// All texts of few letters: those with five numbers and the marks in their places are read, and no others.
func TestShortTextsAreReadAsTold(t *testing.T) {
	letters := "01.:"
	read := 0
	for length := range 10 {
		for n := range 1 << (2 * length) {
			s := make([]byte, length)
			for i := range s {
				s[i] = letters[n>>(2*i)&3]
			}
			mustReadAsTold(t, string(s))
			if _, ok := impl.ParseAddr(string(s)); ok {
				read++
			}
		}
	}
	if read != 32 {
		t.Errorf("%d texts were read", read)
	}
}

func TestNearAtItsEdges(t *testing.T) {
	for i := range 256 {
		a := impl.Near(i)
		if a != addr(167772160+i, 7000+i) || !impl.AddrOk(a) {
			t.Errorf("Near of %d is %v", i, a)
		}
		if text, want := impl.AddrText(a), fmt.Sprintf("10.0.0.%d:%d", i, 7000+i); text != want {
			t.Errorf("Near of %d is %q, not %q", i, text, want)
		}
	}
	for _, i := range []int{-1, -2, -255, -256, -7000, 256, 257, 263, 511, 512, 65535, 65536, 1 << 24, 1 << 32, 1<<32 + 7, -(1 << 32), math.MaxInt, math.MaxInt - 7000, math.MinInt, math.MinInt + 7} {
		if a := impl.Near(i); a != (impl.Addr{}) {
			t.Errorf("Near of %d is %v", i, a)
		}
	}
}

func TestAddrsWriteIntoNoArgumentAndShareNone(t *testing.T) {
	for _, n := range []int{0, 1, 5, 6, 7, 40} {
		for _, a := range []impl.Addr{addr(0x0a000007, 7007), {}, addr(1<<32-1, 65535), addr(-1, 0), addr(0, 65536), addr(1<<32, -1)} {
			b := roomy(pattern(n)...)
			first, second := impl.PutAddr(b, a), impl.PutAddr(b, a)
			want := slices.Clone(second)
			for _, at := range []int{-1, 0, n - bytesOfAnAddr, n - bytesOfAnAddr + 1, n, math.MaxInt, math.MinInt} {
				impl.GetAddr(b, at)
			}
			mustBeUntouched(t, "asked", b, pattern(n)...)
			scribble(first)
			mustBeUntouched(t, "with its answer written over", b, pattern(n)...)
			scribble(b)
			if !bytes.Equal(second, want) {
				t.Errorf("PutAddr of %d bytes and %v is %x now, not %x", n, a, second, want)
			}
		}
	}
}

// What was asked, or refused, ahead leaves nothing behind.
func TestAddrsKeepNothing(t *testing.T) {
	for range 3 {
		mustNotParseAddr(t, "255.255.255.255:65536")
		mustParseAddr(t, "0.0.0.0:0", impl.Addr{})
		mustNotParseAddr(t, "")
		mustParseAddr(t, "10.0.0.7:7007", impl.Near(7))
		mustNotGetAddr(t, pattern(6), 1)
		mustGetAddr(t, counted(1, 6), 0, addr(0x01020304, 0x0506))
		if got := impl.AddrText(addr(-1, 0)) + impl.AddrText(impl.Near(7)) + impl.AddrText(addr(0, 65536)); got != "10.0.0.7:7007" {
			t.Error(got)
		}
	}
}
