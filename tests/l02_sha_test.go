package tests

import (
	"bytes"
	"crypto/sha256"
	"encoding"
	"encoding/binary"
	"fmt"
	"math"
	"slices"
	"strings"
	"testing"

	"loop.example/g00478/impl"
)

const (
	blockSize = 64
	spareWord = 0x5a5a5a5a5a
	emptySum  = "e3b0c44298fc1c149afbf4c8996fb92427ae41e4649b934ca495991b7852b855"
)

func roomyInts(l ...int) []int {
	return roomyOf(spareWord, l...)
}

func mustBeUntouchedInts(t *testing.T, what string, l []int, was ...int) {
	t.Helper()
	mustBeUntouchedOf(t, what, spareWord, l, was)
}

func scribbleInts(answer []int) {
	answer = answer[:cap(answer)]
	for i := range answer {
		answer[i] ^= 0xff
	}
}

func scribbleHash(h impl.Hash) {
	scribbleInts(h.H)
	scribble(h.Held)
}

func sameHash(a impl.Hash, b impl.Hash) bool {
	return slices.Equal(a.H, b.H) && bytes.Equal(a.Held, b.Held) && a.N == b.N
}

func shaOf(b []byte) []byte {
	s := sha256.Sum256(b)
	return s[:]
}

// otherSum is the library's sum, taken up where h stands: it tells what any eight words lead to.
func otherSum(t *testing.T, h impl.Hash) encoding.BinaryMarshaler {
	t.Helper()
	state := []byte("sha\x03")
	for _, x := range h.H {
		state = binary.BigEndian.AppendUint32(state, uint32(x))
	}
	state = append(state, h.Held...)
	state = append(state, make([]byte, blockSize-len(h.Held))...)
	state = binary.BigEndian.AppendUint64(state, uint64(h.N))
	d := sha256.New()
	if err := d.(encoding.BinaryUnmarshaler).UnmarshalBinary(state); err != nil {
		t.Fatal(err)
	}
	return d.(encoding.BinaryMarshaler)
}

func otherWords(t *testing.T, d encoding.BinaryMarshaler) []int {
	t.Helper()
	state, err := d.MarshalBinary()
	if err != nil {
		t.Fatal(err)
	}
	l := make([]int, 8)
	for i := range l {
		l[i] = int(binary.BigEndian.Uint32(state[4+4*i:]))
	}
	return l
}

func someWords() []int {
	return []int{0xffffffff, 0, 1, 0x80000000, 0x7fffffff, 0x12345678, 0xdeadbeef, 0xfffffffe}
}

func firstWords() []int {
	return []int{0x6a09e667, 0xbb67ae85, 0x3c6ef372, 0xa54ff53a, 0x510e527f, 0x9b05688c, 0x1f83d9ab, 0x5be0cd19}
}

// notEightWords: seven, nine, none, and eight of which one is no word, wherever it stands.
func notEightWords() [][]int {
	start := firstWords()
	l := [][]int{nil, {}, {1}, start[:7], append(slices.Clone(start), 1), append(slices.Clone(start), start...)}
	for i := range start {
		for _, x := range []int{-1, 1 << 32, 1<<32 + 5, -(1 << 32), math.MaxInt, math.MinInt} {
			bad := slices.Clone(start)
			bad[i] = x
			l = append(l, bad)
		}
	}
	return l
}

func TestPadFillsBlocks(t *testing.T) {
	for n := range 400 {
		p := impl.Pad(n)
		if len(p) < 9 || len(p) > 72 || (n+len(p))%blockSize != 0 {
			t.Fatalf("Pad(%d) has %d bytes", n, len(p))
		}
		noughts := make([]byte, len(p)-9)
		if p[0] != 0x80 || !bytes.Equal(p[1:len(p)-8], noughts) || binary.BigEndian.Uint64(p[len(p)-8:]) != uint64(8*n) {
			t.Errorf("Pad(%d) is %x", n, p)
		}
	}
}

func TestPadAtItsEdges(t *testing.T) {
	for n, want := range map[int]int{0: 64, 1: 63, 54: 10, 55: 9, 56: 72, 57: 71, 63: 65, 64: 64, 119: 9, 120: 72, 127: 65, 128: 64, impl.MaxSha - 9: 9, impl.MaxSha - 8: 72, impl.MaxSha - 1: 65, impl.MaxSha: 64} {
		if p := impl.Pad(n); len(p) != want || binary.BigEndian.Uint64(p[len(p)-8:]) != uint64(8*n) {
			t.Errorf("Pad(%d) is %x, not of %d bytes", n, p, want)
		}
	}
	if got := fmt.Sprintf("%x", impl.Pad(impl.MaxSha)); got != "80"+strings.Repeat("00", 55)+"0000000000800000" {
		t.Error(got)
	}
	for _, n := range []int{-1, -55, -64, impl.MaxSha + 1, impl.MaxSha + 64, 1 << 32, math.MaxInt, math.MinInt} {
		if p := impl.Pad(n); len(p) != 0 {
			t.Errorf("Pad(%d) is %x", n, p)
		}
	}
}

func TestStartIsTheEightWords(t *testing.T) {
	for range 2 {
		got := impl.Start()
		if !slices.Equal(got, firstWords()) {
			t.Errorf("%x", got)
		}
		scribbleInts(got)
	}
}

// The round words are the first 32 bits behind the point of the cube roots of the first 64 primes: they are worked out here, not written once more.
func TestRoundWordsAreOfTheCubeRoots(t *testing.T) {
	primes := []uint64{}
	for n := uint64(2); len(primes) < 64; n++ {
		if !slices.ContainsFunc(primes, func(p uint64) bool { return n%p == 0 }) {
			primes = append(primes, n)
		}
	}
	for i, p := range primes {
		want := uint64(math.Cbrt(float64(p))*(1<<32)) & 0xffffffff
		if got := impl.RoundWord(i); uint64(got) != want {
			t.Errorf("RoundWord(%d) is %x, not %x", i, got, want)
		}
	}
}

func TestRoundWordAtItsEdges(t *testing.T) {
	for i, want := range map[int]int{0: 0x428a2f98, 1: 0x71374491, 18: 0x0fc19dc6, 30: 0x06ca6351, 62: 0xbef9a3f7, 63: 0xc67178f2} {
		if got := impl.RoundWord(i); got != want {
			t.Errorf("RoundWord(%d) is %x, not %x", i, got, want)
		}
	}
	for _, i := range []int{-1, -64, 64, 65, 128, 1 << 32, math.MaxInt, math.MinInt} {
		if got := impl.RoundWord(i); got != 0 {
			t.Errorf("RoundWord(%d) is %x", i, got)
		}
	}
}

func turned(x uint32, n int) uint32 {
	return x>>n | x<<(32-n)
}

func TestScheduleIsAsTold(t *testing.T) {
	for _, block := range [][]byte{pattern(64), make([]byte, 64), bytes.Repeat([]byte{0xff}, 64), impl.Pad(0), pattern(300)[200:264]} {
		var w [64]uint32
		for i := range w {
			if i < 16 {
				w[i] = binary.BigEndian.Uint32(block[4*i:])
				continue
			}
			x, y := w[i-15], w[i-2]
			w[i] = w[i-7] + w[i-16] + (turned(x, 7) ^ turned(x, 18) ^ x>>3) + (turned(y, 17) ^ turned(y, 19) ^ y>>10)
		}
		got := impl.Schedule(block)
		if len(got) != 64 {
			t.Fatalf("%d words", len(got))
		}
		for i, x := range got {
			if x != int(w[i]) {
				t.Errorf("the word %d of %x is %x, not %x", i, block, x, w[i])
			}
		}
	}
}

// The room behind a block of 63 bytes must not make it one of 64.
func TestScheduleWantsABlock(t *testing.T) {
	for _, n := range []int{0, 1, 4, 32, 63, 65, 128, 1000} {
		if got := impl.Schedule(roomy(pattern(n)...)); len(got) != 0 {
			t.Errorf("of %d bytes: %x", n, got)
		}
	}
	if got := impl.Schedule(nil); len(got) != 0 {
		t.Errorf("of nothing: %x", got)
	}
}

func TestCompressIsAsTheLibraryDoes(t *testing.T) {
	h := someWords()
	for i, block := range [][]byte{pattern(64), make([]byte, 64), bytes.Repeat([]byte{0xff}, 64), impl.Pad(0), pattern(300)[200:264]} {
		for _, from := range [][]int{firstWords(), someWords(), make([]int, 8), slices.Repeat([]int{0xffffffff}, 8), h} {
			d := otherSum(t, impl.Hash{H: from})
			d.(interface{ Write([]byte) (int, error) }).Write(block)
			want := otherWords(t, d)
			if got := impl.Compress(from, block); !slices.Equal(got, want) {
				t.Errorf("Compress(%x, block %d) is %x, not %x", from, i, got, want)
			}
			h = want
		}
	}
}

func TestCompressAnswersHWhereItIsNotAsWanted(t *testing.T) {
	for _, h := range notEightWords() {
		for _, n := range []int{0, 63, 64, 65} {
			if got := impl.Compress(roomyInts(h...), roomy(pattern(n)...)); !slices.Equal(got, h) {
				t.Errorf("Compress(%x) with %d bytes is %x", h, n, got)
			}
		}
	}
	for _, n := range []int{0, 1, 32, 63, 65, 128} {
		if got := impl.Compress(someWords(), roomy(pattern(n)...)); !slices.Equal(got, someWords()) {
			t.Errorf("Compress with %d bytes is %x", n, got)
		}
	}
	if got := impl.Compress(someWords(), nil); !slices.Equal(got, someWords()) {
		t.Errorf("Compress with nothing is %x", got)
	}
}

func TestKnownSums(t *testing.T) {
	for text, want := range map[string]string{
		"":    emptySum,
		"a":   "ca978112ca1bbdcafac231b39a23dc4da786eff8147c4e72b9807785afee48bb",
		"abc": "ba7816bf8f01cfea414140de5dae2223b00361a396177a9cb410ff61f20015ad",
		"abcdbcdecdefdefgefghfghighijhijkijkljklmklmnlmnomnopnopq":                                                         "248d6a61d20638b8e5c026930c3e6039a33ce45964ff2167f6ecedd419db06c1",
		"abcdefghbcdefghicdefghijdefghijkefghijklfghijklmghijklmnhijklmnoijklmnopjklmnopqklmnopqrlmnopqrsmnopqrstnopqrstu": "cf5b16a778af8380036ce59e7b0492370b249b11e8f07a51afac45037afee9d1",
		strings.Repeat("a", 1000000): "cdc76e5c9914fb9281a1c7e284d73e67f1809a48a497200e046d39ccc7112cd0",
	} {
		if got := fmt.Sprintf("%x", impl.Sha([]byte(text))); got != want {
			t.Errorf("of %d bytes: %s, not %s", len(text), got, want)
		}
	}
	if got := fmt.Sprintf("%x", impl.Sha(nil)); got != emptySum {
		t.Error(got)
	}
}

// All lengths around the ends of the first blocks are among these.
func TestShaIsAsTheLibraryDoes(t *testing.T) {
	for n := range 330 {
		if got := impl.Sha(roomy(pattern(n)...)); !bytes.Equal(got, shaOf(pattern(n))) {
			t.Errorf("of %d bytes: %x", n, got)
		}
	}
}

func TestShaHasALimit(t *testing.T) {
	text := pattern(impl.MaxSha + 64)
	for _, n := range []int{impl.MaxSha - 64, impl.MaxSha - 9, impl.MaxSha - 8, impl.MaxSha - 1, impl.MaxSha} {
		if got := impl.Sha(text[:n]); !bytes.Equal(got, shaOf(text[:n])) {
			t.Errorf("of %d bytes: %x", n, got)
		}
	}
	for _, n := range []int{impl.MaxSha + 1, impl.MaxSha + 64} {
		if got := impl.Sha(text[:n]); len(got) != 0 {
			t.Errorf("of %d bytes: %x", n, got)
		}
	}
}

func TestHashNewIsStartAndNothing(t *testing.T) {
	for range 2 {
		h := impl.HashNew()
		if !slices.Equal(h.H, firstWords()) || len(h.Held) != 0 || h.N != 0 || !impl.HashOk(h) {
			t.Errorf("%+v", h)
		}
		if got := fmt.Sprintf("%x", impl.HashEnd(h)); got != emptySum {
			t.Error(got)
		}
		scribbleHash(h)
	}
}

// sumInParts adds what lies between the cuts, and holds each stand on the way against the library's.
func sumInParts(t *testing.T, text []byte, cuts ...int) {
	t.Helper()
	h := impl.HashNew()
	d := sha256.New()
	from := 0
	for _, to := range append(slices.Clone(cuts), len(text)) {
		h = impl.HashAdd(h, text[from:to])
		d.Write(text[from:to])
		from = to
		if !impl.HashOk(h) || h.N != to || !bytes.Equal(h.Held, text[to-to%blockSize:to]) || !slices.Equal(h.H, otherWords(t, d.(encoding.BinaryMarshaler))) {
			t.Errorf("of %d bytes, cut at %v: at %d it is %x", len(text), cuts, to, h)
		}
		if got := impl.HashEnd(h); !bytes.Equal(got, shaOf(text[:to])) {
			t.Errorf("of %d bytes, cut at %v: the sum at %d is %x", len(text), cuts, to, got)
		}
	}
	if got := impl.HashEnd(h); !bytes.Equal(got, impl.Sha(text)) {
		t.Errorf("of %d bytes, cut at %v: %x, as a whole %x", len(text), cuts, got, impl.Sha(text))
	}
}

// P2: texts that end at, ahead of and behind a block's end, in one, two, three and many parts.
func TestPartsHaveTheSumOfTheWhole(t *testing.T) {
	cuts := []int{0, 1, 55, 56, 63, 64, 65, 127, 128, 129, 192}
	for _, n := range []int{0, 1, 2, 55, 56, 57, 63, 64, 65, 119, 120, 127, 128, 129, 191, 192, 193, 256, 300} {
		text := pattern(n)
		sumInParts(t, text)
		sumInParts(t, text, 0, 0)
		sumInParts(t, text, n, n)
		for i, a := range cuts {
			if a > n {
				break
			}
			sumInParts(t, text, a)
			for _, b := range cuts[i:] {
				if b <= n {
					sumInParts(t, text, a, b)
				}
			}
		}
	}
}

func TestManyPartsHaveTheSumOfTheWhole(t *testing.T) {
	for _, n := range []int{1, 63, 64, 65, 128, 200, 256, 320} {
		for _, step := range []int{1, 2, 3, 7, 31, 32, 63, 64, 65} {
			cuts := []int{}
			for at := step; at < n; at += step {
				cuts = append(cuts, at)
			}
			sumInParts(t, pattern(n), cuts...)
		}
	}
}

func TestPartsOfTheLongestText(t *testing.T) {
	text := pattern(impl.MaxSha)
	sumInParts(t, text)
	sumInParts(t, text, 1, 65, impl.MaxSha/2, impl.MaxSha/2+63, impl.MaxSha-1)
	sumInParts(t, text, 0, 64, 128, impl.MaxSha-64, impl.MaxSha)
}

func TestHashAddHasALimit(t *testing.T) {
	text := pattern(impl.MaxSha)
	for _, n := range []int{0, 1, 63, 64, impl.MaxSha - 65, impl.MaxSha - 64, impl.MaxSha - 1, impl.MaxSha} {
		h := impl.HashAdd(impl.HashNew(), text[:n])
		for _, more := range []int{impl.MaxSha - n + 1, impl.MaxSha - n + 64} {
			if got := impl.HashAdd(h, make([]byte, more)); !sameHash(got, h) {
				t.Errorf("at %d, with %d more: %d, %x", n, more, got.N, got.Held)
			}
		}
		full := impl.HashAdd(h, text[n:])
		if full.N != impl.MaxSha || !impl.HashOk(full) || !bytes.Equal(impl.HashEnd(full), shaOf(text)) {
			t.Errorf("at %d, filled up: %d, %x", n, full.N, full.Held)
		}
		if again := impl.HashAdd(full, nil); !sameHash(again, full) {
			t.Errorf("at %d, filled up, and nothing more: %d, %x", n, again.N, again.Held)
		}
	}
}

func TestHashOkTakesAnyEightWords(t *testing.T) {
	for _, h := range []impl.Hash{
		{H: firstWords()},
		{H: someWords()},
		{H: make([]int, 8)},
		{H: slices.Repeat([]int{0xffffffff}, 8)},
		{H: someWords(), Held: []byte{}, N: 64},
		{H: someWords(), Held: pattern(1), N: 1},
		{H: someWords(), Held: pattern(1), N: 65},
		{H: someWords(), Held: pattern(63), N: 63},
		{H: someWords(), Held: pattern(63), N: 127},
		{H: someWords(), Held: pattern(63), N: impl.MaxSha - 1},
		{H: someWords(), N: impl.MaxSha},
		{H: someWords(), N: impl.MaxSha - 64},
	} {
		if !impl.HashOk(h) {
			t.Errorf("%x is right", h)
		}
		d := otherSum(t, h)
		if got, want := impl.HashEnd(h), d.(interface{ Sum([]byte) []byte }).Sum(nil); !bytes.Equal(got, want) {
			t.Errorf("HashEnd(%x) is %x, not %x", h, got, want)
		}
		if h.N+100 > impl.MaxSha {
			continue
		}
		d.(interface{ Write([]byte) (int, error) }).Write(pattern(100))
		got := impl.HashAdd(h, pattern(100))
		whole := append(slices.Clone(h.Held), pattern(100)...)
		if !slices.Equal(got.H, otherWords(t, d)) || got.N != h.N+100 || !bytes.Equal(got.Held, whole[len(whole)-got.N%blockSize:]) {
			t.Errorf("HashAdd(%x) is %x", h, got)
		}
	}
}

func wrongHashes() []impl.Hash {
	l := []impl.Hash{
		{},
		{N: 1, Held: pattern(1)},
		{H: firstWords(), N: 1},
		{H: firstWords(), N: 63},
		{H: firstWords(), Held: pattern(1)},
		{H: firstWords(), Held: pattern(1), N: 64},
		{H: firstWords(), Held: pattern(2), N: 1},
		{H: firstWords(), Held: pattern(1), N: 2},
		{H: firstWords(), Held: pattern(64)},
		{H: firstWords(), Held: pattern(64), N: 64},
		{H: firstWords(), Held: pattern(65), N: 1},
		{H: firstWords(), Held: pattern(65), N: 65},
		{H: firstWords(), Held: pattern(128), N: 128},
		{H: firstWords(), Held: pattern(62), N: 127},
		{H: firstWords(), N: -1},
		{H: firstWords(), Held: pattern(63), N: -1},
		{H: firstWords(), Held: pattern(1), N: -1},
		{H: firstWords(), N: -64},
		{H: firstWords(), N: math.MinInt},
		{H: firstWords(), Held: pattern(1), N: impl.MaxSha + 1},
		{H: firstWords(), N: impl.MaxSha + 64},
		{H: firstWords(), N: 1 << 32},
		{H: firstWords(), Held: pattern(63), N: math.MaxInt},
		{H: firstWords(), Held: pattern(1), N: impl.MaxSha},
	}
	for _, words := range notEightWords() {
		l = append(l, impl.Hash{H: words}, impl.Hash{H: words, Held: pattern(3), N: 67})
	}
	return l
}

func TestWrongHashesAreRefused(t *testing.T) {
	for _, h := range wrongHashes() {
		if impl.HashOk(h) {
			t.Errorf("%x is not right", h)
		}
		if got := impl.HashEnd(h); len(got) != 0 {
			t.Errorf("HashEnd(%x) is %x", h, got)
		}
		for _, n := range []int{0, 1, 63, 64, 200} {
			if got := impl.HashAdd(h, pattern(n)); !sameHash(got, h) {
				t.Errorf("HashAdd(%x) of %d bytes is %x", h, n, got)
			}
		}
	}
}

// hashesToWatch: right ones, one that is full, and wrong ones; each call makes them anew, with spare room.
func hashesToWatch() []impl.Hash {
	l := []impl.Hash{
		{H: firstWords()},
		{H: someWords(), Held: pattern(5), N: 5},
		{H: someWords(), Held: pattern(63), N: 127},
		{H: someWords(), N: impl.MaxSha},
		{H: someWords(), Held: pattern(63), N: impl.MaxSha - 1},
	}
	l = append(l, wrongHashes()...)
	for i, h := range l {
		l[i].H, l[i].Held = roomyInts(h.H...), roomy(h.Held...)
	}
	return l
}

func mustBeUntouchedHash(t *testing.T, what string, h impl.Hash, was impl.Hash) {
	t.Helper()
	mustBeUntouchedInts(t, what, h.H, was.H...)
	mustBeUntouched(t, what, h.Held, was.Held...)
}

func TestSumsWriteIntoNoArgumentAndShareNone(t *testing.T) {
	for _, n := range []int{0, 1, 59, 63, 64, 65, 130} {
		was := hashesToWatch()
		for i, h := range hashesToWatch() {
			b := roomy(pattern(n)...)
			added := impl.HashAdd(h, b)
			scribble(impl.HashEnd(h))
			impl.HashOk(h)
			mustBeUntouchedHash(t, "HashAdd", h, was[i])
			mustBeUntouched(t, "HashAdd", b, pattern(n)...)
			scribbleHash(added)
			mustBeUntouchedHash(t, "HashAdd, written over", h, was[i])
			mustBeUntouched(t, "HashAdd, written over", b, pattern(n)...)
			kept := impl.HashAdd(h, b)
			again := impl.HashAdd(h, b)
			scribbleHash(h)
			scribble(b)
			if !sameHash(kept, again) {
				t.Errorf("written with the argument: %x", kept)
			}
			scribbleHash(again)
			if want := impl.HashAdd(was[i], pattern(n)); !sameHash(kept, want) {
				t.Errorf("written with the argument, or with another answer: %x, not %x", kept, want)
			}
		}
	}
}

func TestWordsWriteIntoNoArgumentAndShareNone(t *testing.T) {
	lists := append(notEightWords(), firstWords(), someWords())
	for _, words := range lists {
		for _, n := range []int{0, 63, 64, 65} {
			h, b := roomyInts(words...), roomy(pattern(n)...)
			got := impl.Compress(h, b)
			want := slices.Clone(got)
			mustBeUntouchedInts(t, "Compress", h, words...)
			mustBeUntouched(t, "Compress", b, pattern(n)...)
			scribbleInts(h)
			scribble(b)
			if !slices.Equal(got, want) {
				t.Errorf("Compress, written with the argument: %x", got)
			}
			h = roomyInts(words...)
			scribbleInts(impl.Compress(h, pattern(n)))
			mustBeUntouchedInts(t, "Compress, written over", h, words...)
		}
	}
	for _, n := range []int{0, 63, 64, 65, 200} {
		b := roomy(pattern(n)...)
		scribbleInts(impl.Schedule(b))
		scribble(impl.Sha(b))
		mustBeUntouched(t, "Schedule and Sha", b, pattern(n)...)
	}
}

// Answers that were written over must not be seen in a later answer.
func TestSumsKeepNothing(t *testing.T) {
	for range 2 {
		words, pad, sum := impl.Schedule(pattern(64)), impl.Pad(3), impl.Sha([]byte("abc"))
		if words[0] != 0x81a6cbf0 || len(pad) != 61 || pad[0] != 0x80 || !bytes.Equal(sum, shaOf([]byte("abc"))) {
			t.Errorf("%x, %x, %x", words, pad, sum)
		}
		scribbleInts(words)
		scribble(pad)
		scribble(sum)
		if impl.RoundWord(0) != 0x428a2f98 || impl.RoundWord(63) != 0xc67178f2 {
			t.Error("the round words were written over")
		}
	}
}
