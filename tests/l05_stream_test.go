package tests

import (
	"bytes"
	"fmt"
	"math"
	"slices"
	"testing"

	"loop.example/g00478/impl"
)

const blocksOfAStream = 7

// blockOf, streamOf, mixOf: what the chapter says, the library's way, of arguments that are as it wants them.
func blockOf(key []byte, head []byte, i int) []byte {
	return hmacOf(key, slices.Concat([]byte{'s'}, head, []byte{0, 0, 0, byte(i)}))
}

func streamOf(key []byte, head []byte, n int) []byte {
	all := []byte{}
	for i := range blocksOfAStream {
		all = append(all, blockOf(key, head, i)...)
	}
	return all[:n]
}

func mixOf(key []byte, head []byte, b []byte) []byte {
	out := streamOf(key, head, len(b))
	for i, x := range b {
		out[i] ^= x
	}
	return out
}

func mustBlock(t *testing.T, key []byte, head []byte, i int) {
	t.Helper()
	want := blockOf(key, head, i)
	if got := impl.BlockOf(key, head, i); !bytes.Equal(got, want) {
		t.Errorf("BlockOf of a key of %d and a head of %d bytes, the block %d, is %x, not %x", len(key), len(head), i, got, want)
	}
}

func mustNotBlock(t *testing.T, key []byte, head []byte, i int) {
	t.Helper()
	if got := impl.BlockOf(key, head, i); len(got) != 0 {
		t.Errorf("BlockOf of a key of %d and a head of %d bytes, the block %d, is %x", len(key), len(head), i, got)
	}
}

func mustStream(t *testing.T, key []byte, head []byte, n int) {
	t.Helper()
	want := streamOf(key, head, n)
	if got := impl.Stream(key, head, n); !bytes.Equal(got, want) {
		t.Errorf("Stream of a key of %d and a head of %d bytes, %d of it, is %x, not %x", len(key), len(head), n, got, want)
	}
}

func mustNotStream(t *testing.T, key []byte, head []byte, n int) {
	t.Helper()
	if got := impl.Stream(key, head, n); len(got) != 0 {
		t.Errorf("Stream of a key of %d and a head of %d bytes, %d of it, is %x", len(key), len(head), n, got)
	}
}

func mustMix(t *testing.T, key []byte, head []byte, b []byte) {
	t.Helper()
	want := mixOf(key, head, b)
	if got := impl.Mix(key, head, b); !bytes.Equal(got, want) {
		t.Errorf("Mix of a key of %d and a head of %d bytes with %d is %x, not %x", len(key), len(head), len(b), got, want)
	}
}

func mustNotMix(t *testing.T, key []byte, head []byte, b []byte) {
	t.Helper()
	if got := impl.Mix(key, head, b); len(got) != 0 {
		t.Errorf("Mix of a key of %d and a head of %d bytes with %d is %x", len(key), len(head), len(b), got)
	}
}

// streamLengths: those around each block's end, and around the longest stream's.
func streamLengths() []int {
	lengths := []int{}
	for end := 0; end <= 192; end += 32 {
		lengths = append(lengths, end-1, end, end+1)
	}
	return append(lengths[1:], 5, 40, 100, impl.MaxStream-1, impl.MaxStream)
}

func headLengths() []int {
	return []int{0, 1, 2, 23, 49, 50, 51, 58, 59, 60, 61, 64, 99, impl.MaxInfo}
}

func TestLimitOfStreams(t *testing.T) {
	if impl.MaxStream != 200 {
		t.Error(impl.MaxStream)
	}
}

func TestKnownBlocks(t *testing.T) {
	for _, c := range []struct {
		key, head []byte
		i         int
		want      string
	}{
		{nil, nil, 0, "1e794d5bc0f14b6a688d75afcc87caba707c3335786b0bf2fe2c7cd83b017d26"},
		{nil, nil, 6, "b153de13f7072f4b84fd277cd219638043e01ef95826fc19309d8ba62da7821c"},
		{[]byte("a key"), []byte{1, 2}, 1, "8bb43f172c728878dc30baccb1e0ab3529b5d432ab49cb9eff53299de2ab4dfd"},
		{counted(0, 32), []byte("head"), 0, "624275bec423f532f02ab4f7a5e562d714bf8963eb400810db5e9b818c09683d"},
		{counted(0, 32), []byte("head"), 6, "b34f6a9d13d41a2a354486cad3f52238c014b3b1e686d164f0c073adb8c816d9"},
		{counted(0, 32), counted(0, 100), 3, "8c0e387166971eca71aecef075ad6d0b6cac2e306b3362db454ea21a48f9506b"},
	} {
		if got := fmt.Sprintf("%x", impl.BlockOf(c.key, c.head, c.i)); got != c.want {
			t.Errorf("BlockOf of %x and %x, the block %d, is %s, not %s", c.key, c.head, c.i, got, c.want)
		}
	}
}

func TestKnownStreams(t *testing.T) {
	for _, c := range []struct {
		key, head []byte
		n         int
		want      string
	}{
		{nil, nil, 33, "1e794d5bc0f14b6a688d75afcc87caba707c3335786b0bf2fe2c7cd83b017d2686"},
		{counted(0, 32), []byte("head"), 40, "624275bec423f532f02ab4f7a5e562d714bf8963eb400810db5e9b818c09683d20ece19873780201"},
		{[]byte("Jefe"), nil, 65, "8265fb3a2a3da0f5ba8c656ef6ff49a946b133ff229e85877a8276672dbd3ae5d762825546cbc75576fb0f68c0792b645d49b739f551e03648e4875b6e17acdd7b"},
		{counted(0, 32), counted(0, 100), 200, "0e1344f88b6b2902d27cfc0e10d46c02eea5eaab2178602f79597483fb084fcec459c41b852e84508d13bdb4ef98dbbbe2a3bf012f3a5a18dc7004925048f671eedd43d2cb28412bd66b6a207360e358e6ea110df5842a355ab008d20690b7ba8c0e387166971eca71aecef075ad6d0b6cac2e306b3362db454ea21a48f9506b1b896e4a47c3c5174718513cc0c85e87df49f752d2702afb6e9b5d3bb44b4f1b9a46fd0045fda1a368146744a5281ae4e7481b4220e85bd775fdb9a7dec50c1c0f6163753d52e226"},
	} {
		if got := fmt.Sprintf("%x", impl.Stream(c.key, c.head, c.n)); got != c.want {
			t.Errorf("Stream of %x and %x, %d of it, is %s, not %s", c.key, c.head, c.n, got, c.want)
		}
	}
}

func TestKnownMixes(t *testing.T) {
	for _, c := range []struct {
		key, head, b []byte
		want         string
	}{
		{nil, nil, []byte("hello"), "761c2137af"},
		{counted(0, 32), []byte("head"), []byte("The quick brown fox jumps over the lazy dog"), "362a109eb5569c519b0ad685ca920cf772d0f14381356560a87ef4f7e97b48494889c1f412027b21a3f8ae"},
		{[]byte("Jefe"), nil, bytes.Repeat([]byte{0xff}, 34), "7d9a04c5d5c25f0a45739a910900b656b94ecc00dd617a78857d8998d242c51a289d"},
	} {
		if got := fmt.Sprintf("%x", impl.Mix(c.key, c.head, c.b)); got != c.want {
			t.Errorf("Mix of %x and %x with %x is %s, not %s", c.key, c.head, c.b, got, c.want)
		}
	}
}

func TestBlocksAreAsTheLibraryDoes(t *testing.T) {
	for _, n := range keyLengths() {
		for _, m := range headLengths() {
			for i := range blocksOfAStream {
				mustBlock(t, roomy(pattern(n)...), roomy(counted(3, m)...), i)
			}
		}
	}
	mustBlock(t, nil, nil, 0)
	mustBlock(t, []byte{}, []byte{}, 6)
}

// Each limit is met and passed beside each other one: one argument that is wrong is enough.
func TestBlocksHaveLimits(t *testing.T) {
	for _, i := range []int{-1, 0, 1, 5, 6, 7} {
		for _, m := range []int{0, impl.MaxInfo - 1, impl.MaxInfo, impl.MaxInfo + 1} {
			for _, k := range []int{0, 64, 65, impl.MaxSha, impl.MaxSha + 1} {
				if i < 0 || i > 6 || m > 100 || k > 1048576 {
					mustNotBlock(t, pattern(k), counted(0, m), i)
				} else {
					mustBlock(t, pattern(k), counted(0, m), i)
				}
			}
		}
	}
}

func TestBlocksRefuseWhatIsFar(t *testing.T) {
	for _, i := range []int{-2, -7, 8, 32, 255, 256, 257, 1 << 32, 1<<32 + 1, -(1 << 32), math.MaxInt, math.MaxInt - 1, math.MinInt, math.MinInt + 1} {
		mustNotBlock(t, pattern(32), []byte("head"), i)
		mustNotBlock(t, nil, nil, i)
	}
	for _, m := range []int{102, 127, 128, 256, 300, 356, 5000, impl.MaxSha, impl.MaxSha + 1} {
		mustNotBlock(t, pattern(32), pattern(m), 0)
		mustNotBlock(t, nil, pattern(m), 6)
	}
	for _, k := range []int{impl.MaxSha + 64, 2 * impl.MaxSha} {
		mustNotBlock(t, pattern(k), nil, 0)
		mustNotBlock(t, pattern(k), []byte("head"), 6)
	}
}

func TestStreamsAreAsTheLibraryDoes(t *testing.T) {
	for _, k := range keyLengths() {
		for _, m := range []int{0, 1, 23, 51, 59, 60, impl.MaxInfo} {
			for _, n := range streamLengths() {
				mustStream(t, roomy(pattern(k)...), roomy(counted(3, m)...), n)
			}
		}
	}
	mustStream(t, nil, nil, 0)
	mustStream(t, nil, nil, impl.MaxStream)
	mustStream(t, []byte{}, []byte{}, 33)
}

// Its own blocks, one behind the other, the last one cut: the stream is no more than these.
func TestAStreamIsItsBlocks(t *testing.T) {
	for _, c := range []struct{ key, head []byte }{{nil, nil}, {pattern(32), []byte("head")}, {pattern(65), counted(0, impl.MaxInfo)}, {make([]byte, 64), make([]byte, 23)}} {
		all := []byte{}
		for i := range blocksOfAStream {
			block := impl.BlockOf(c.key, c.head, i)
			if len(block) != 32 {
				t.Fatalf("the block %d has %d bytes", i, len(block))
			}
			all = append(all, block...)
		}
		for n := range impl.MaxStream + 1 {
			if got := impl.Stream(c.key, c.head, n); !bytes.Equal(got, all[:n]) {
				t.Errorf("a key of %d and a head of %d bytes: %d bytes of the stream are %x, those of its blocks %x", len(c.key), len(c.head), n, got, all[:n])
			}
		}
	}
}

func TestFewerBytesOfAStreamAreTheBeginningOfMore(t *testing.T) {
	for _, c := range []struct{ key, head []byte }{{nil, nil}, {pattern(32), []byte("head")}, {pattern(200), counted(0, impl.MaxInfo)}} {
		ahead := []byte{}
		for n := range impl.MaxStream + 1 {
			got := impl.Stream(c.key, c.head, n)
			if len(got) != n || !bytes.HasPrefix(got, ahead) {
				t.Errorf("a key of %d and a head of %d bytes: %d bytes do not go on from %d: %x", len(c.key), len(c.head), n, len(ahead), got)
			}
			ahead = got
		}
	}
}

func TestStreamsHaveLimits(t *testing.T) {
	for _, n := range []int{-1, 0, 1, 31, 32, 33, 192, 193, impl.MaxStream - 1, impl.MaxStream, impl.MaxStream + 1} {
		for _, m := range []int{0, impl.MaxInfo - 1, impl.MaxInfo, impl.MaxInfo + 1} {
			for _, k := range []int{0, 64, 65, impl.MaxSha, impl.MaxSha + 1} {
				if n < 0 || n > 200 || m > 100 || k > 1048576 {
					mustNotStream(t, pattern(k), counted(0, m), n)
				} else {
					mustStream(t, pattern(k), counted(0, m), n)
				}
			}
		}
	}
}

// 223, 224 and 225: seven blocks hold more than a stream may have.
func TestStreamsRefuseWhatIsFar(t *testing.T) {
	for _, n := range []int{-2, -31, -32, -200, -201, 202, 223, 224, 225, 256, 257, 1000, impl.MaxSha, 1 << 32, 1<<32 + 1, -(1 << 32), math.MaxInt, math.MaxInt - 31, math.MinInt, math.MinInt + 1} {
		mustNotStream(t, pattern(32), []byte("head"), n)
		mustNotStream(t, nil, nil, n)
	}
	for _, m := range []int{102, 127, 128, 256, 300, 5000, impl.MaxSha, impl.MaxSha + 1} {
		mustNotStream(t, pattern(32), pattern(m), 1)
		mustNotStream(t, nil, pattern(m), impl.MaxStream)
	}
	for _, k := range []int{impl.MaxSha + 64, 2 * impl.MaxSha} {
		mustNotStream(t, pattern(k), nil, 1)
		mustNotStream(t, pattern(k), []byte("head"), impl.MaxStream)
	}
}

func TestMixesAreAsTheLibraryDoes(t *testing.T) {
	for _, k := range keyLengths() {
		for _, m := range []int{0, 1, 23, 59, 60, impl.MaxInfo} {
			for _, n := range streamLengths() {
				mustMix(t, roomy(pattern(k)...), roomy(counted(3, m)...), roomy(counted(11, n)...))
			}
		}
	}
	mustMix(t, nil, nil, nil)
	mustMix(t, []byte{}, []byte{}, []byte{})
	mustMix(t, []byte("key"), []byte("head"), []byte("a \xff\xfe text \u00e9"))
}

func TestMixedWithBytes0IsTheStreamItself(t *testing.T) {
	for _, n := range streamLengths() {
		key, head := pattern(32), []byte("head")
		if got, want := impl.Mix(key, head, make([]byte, n)), impl.Stream(key, head, n); !bytes.Equal(got, want) || len(got) != n {
			t.Errorf("%d bytes 0 are %x, not %x", n, got, want)
		}
		if got := impl.Mix(key, head, impl.Stream(key, head, n)); !bytes.Equal(got, make([]byte, n)) {
			t.Errorf("%d bytes of the stream itself are %x", n, got)
		}
	}
}

func TestMixesHaveLimits(t *testing.T) {
	for _, n := range []int{0, 1, 31, 32, 33, impl.MaxStream - 1, impl.MaxStream, impl.MaxStream + 1} {
		for _, m := range []int{0, impl.MaxInfo - 1, impl.MaxInfo, impl.MaxInfo + 1} {
			for _, k := range []int{0, 64, 65, impl.MaxSha, impl.MaxSha + 1} {
				if n > 200 || m > 100 || k > 1048576 {
					mustNotMix(t, pattern(k), counted(0, m), counted(11, n))
				} else {
					mustMix(t, pattern(k), counted(0, m), counted(11, n))
				}
			}
		}
	}
}

// A key that is too long must not be taken for none: BlockKey of it has no bytes.
func TestMixesRefuseWhatIsFar(t *testing.T) {
	for _, n := range []int{202, 223, 224, 225, 256, 1000, impl.MaxSha + 1} {
		mustNotMix(t, pattern(32), []byte("head"), pattern(n))
		mustNotMix(t, nil, nil, pattern(n))
	}
	for _, m := range []int{102, 128, 256, 300, 5000, impl.MaxSha + 1} {
		mustNotMix(t, pattern(32), pattern(m), []byte("text"))
		mustNotMix(t, nil, pattern(m), pattern(impl.MaxStream))
	}
	for _, k := range []int{impl.MaxSha + 1, impl.MaxSha + 64, 2 * impl.MaxSha} {
		mustNotMix(t, pattern(k), nil, []byte("text"))
		mustNotMix(t, pattern(k), []byte("head"), pattern(impl.MaxStream))
	}
}

func mustComeBack(t *testing.T, key []byte, head []byte, text []byte) {
	t.Helper()
	once := impl.Mix(key, head, text)
	if len(once) != len(text) {
		t.Errorf("a key of %d and a head of %d bytes: of %d bytes %d are mixed", len(key), len(head), len(text), len(once))
	}
	if twice := impl.Mix(key, head, once); !bytes.Equal(twice, text) {
		t.Errorf("a key of %d and a head of %d bytes: %x, mixed twice, is %x", len(key), len(head), text, twice)
	}
}

// P5: whatever the text is, and with whatever key and head.
func TestATextThatIsMixedTwiceIsAsItWas(t *testing.T) {
	for _, n := range []int{0, 1, 31, 32, 33, 64, 65, impl.MaxStream - 1, impl.MaxStream} {
		for _, key := range [][]byte{nil, []byte("a key"), pattern(32), pattern(64), pattern(65), make([]byte, 32)} {
			for _, head := range [][]byte{nil, {1, 2}, pattern(23), pattern(impl.MaxInfo)} {
				mustComeBack(t, key, head, pattern(n))
				mustComeBack(t, key, head, make([]byte, n))
				mustComeBack(t, key, head, bytes.Repeat([]byte{0xff}, n))
			}
		}
		mustComeBack(t, pattern(impl.MaxSha), []byte("head"), pattern(n))
	}
	for n := range impl.MaxStream + 1 {
		mustComeBack(t, pattern(32), []byte("head"), counted(byte(n), n))
	}
}

// Mixed once it is not what it was, and with another key or head it does not come back.
func TestATextThatIsMixedOnceIsHidden(t *testing.T) {
	key, head := pattern(32), []byte("head")
	for _, n := range []int{16, 31, 32, 33, 64, 65, impl.MaxStream} {
		text := pattern(n)
		once := impl.Mix(key, head, text)
		if bytes.Equal(once, text) {
			t.Errorf("%d bytes are as they were", n)
		}
		if bytes.Equal(impl.Mix([]byte("another"), head, once), text) {
			t.Errorf("%d bytes come back with another key", n)
		}
		if bytes.Equal(impl.Mix(key, []byte("heaD"), once), text) {
			t.Errorf("%d bytes come back with another head", n)
		}
	}
}

// Each byte is mixed with the stream's at its place, and with no other.
func TestATurnedByteTurnsItsOwnPlaceAlone(t *testing.T) {
	key, head, text := pattern(32), []byte("head"), counted(1, impl.MaxStream)
	was := impl.Mix(key, head, text)
	for i := range text {
		for _, bit := range []byte{1, 0x80, 0xff} {
			text[i] ^= bit
			want := slices.Clone(was)
			want[i] ^= bit
			if got := impl.Mix(key, head, text); !bytes.Equal(got, want) {
				t.Errorf("the byte %d, turned by %x: %x, not %x", i, bit, got, want)
			}
			text[i] ^= bit
		}
	}
}

func TestStreamsHangOnEachByte(t *testing.T) {
	for _, n := range []int{1, 32, 64, 65, 100} {
		key, head := pattern(n), pattern(n)
		was := impl.Stream(key, head, 64)
		for i := range n {
			key[i] ^= 1
			if got := impl.Stream(key, head, 64); bytes.Equal(got[:32], was[:32]) || bytes.Equal(got[32:], was[32:]) {
				t.Errorf("the byte %d of %d of the key does not count", i, n)
			}
			key[i] ^= 1
			head[i] ^= 1
			if got := impl.Stream(key, head, 64); bytes.Equal(got[:32], was[:32]) || bytes.Equal(got[32:], was[32:]) {
				t.Errorf("the byte %d of %d of the head does not count", i, n)
			}
			head[i] ^= 1
		}
	}
}

// Heads of bytes 0, and one that is another's beginning, have blocks of their own.
func TestBlocksOfStreamsAreUnlike(t *testing.T) {
	met := map[string]int{}
	heads := [][]byte{nil, {0}, {0, 0}, {0, 0, 0, 1}, {0, 0, 0, 0, 0}, {1}, {'s'}, []byte("head"), []byte("head\x00"), make([]byte, impl.MaxInfo)}
	for _, head := range heads {
		for i := range blocksOfAStream {
			met[string(impl.BlockOf(pattern(32), head, i))]++
		}
	}
	if len(met) != len(heads)*blocksOfAStream {
		t.Errorf("there are %d blocks", len(met))
	}
}

// streamAnswers: all that chapter 5 answers of these, those that are refused among them.
func streamAnswers(key []byte, head []byte, b []byte) [][]byte {
	answers := [][]byte{impl.Mix(key, head, b), impl.Mix(head, key, b), impl.Mix(key, b, head)}
	for _, i := range []int{-1, 0, 6, 7} {
		answers = append(answers, impl.BlockOf(key, head, i))
	}
	for _, n := range []int{-1, 0, 1, 32, 33, impl.MaxStream, impl.MaxStream + 1} {
		answers = append(answers, impl.Stream(key, head, n))
	}
	return answers
}

func mustBeAsGiven(t *testing.T, what string, key []byte, head []byte, b []byte) {
	t.Helper()
	if !bytes.Equal(key, pattern(len(key))) {
		t.Fatalf("the key of %d bytes, %s", len(key), what)
	}
	mustBeUntouched(t, "the key's room, "+what, key[len(key):])
	mustBeUntouched(t, "the head, "+what, head, counted(9, len(head))...)
	mustBeUntouched(t, "the text, "+what, b, counted(77, len(b))...)
}

func TestStreamsWriteIntoNoArgumentAndShareNone(t *testing.T) {
	for _, k := range []int{0, 1, 32, 64, 65, impl.MaxSha + 1} {
		for _, m := range []int{0, 1, 64, impl.MaxInfo, impl.MaxInfo + 1} {
			for _, n := range []int{0, 1, 32, 65, impl.MaxStream, impl.MaxStream + 1} {
				key, head, b := roomy(pattern(k)...), roomy(counted(9, m)...), roomy(counted(77, n)...)
				answers := streamAnswers(key, head, b)
				mustBeAsGiven(t, "asked", key, head, b)
				for _, a := range answers {
					scribble(a)
				}
				mustBeAsGiven(t, "with its answers written over", key, head, b)
			}
		}
	}
}

// An answer stays as it was when its arguments and all other answers of them are written over.
func TestStreamsStayAsTheyWere(t *testing.T) {
	for _, k := range []int{0, 32, 65} {
		for _, m := range []int{0, 1, impl.MaxInfo} {
			for _, n := range []int{0, 1, 33, impl.MaxStream} {
				want := streamAnswers(pattern(k), counted(9, m), counted(77, n))
				for i := range want {
					key, head, b := roomy(pattern(k)...), roomy(counted(9, m)...), roomy(counted(77, n)...)
					answers := streamAnswers(key, head, b)
					for j, a := range append(answers, streamAnswers(key, head, b)...) {
						if j != i {
							scribble(a)
						}
					}
					for _, given := range [][]byte{key, head, b} {
						scribble(given)
					}
					if !bytes.Equal(answers[i], want[i]) {
						t.Errorf("the answer %d of %d, %d and %d bytes is %x now, not %x", i, k, m, n, answers[i], want[i])
					}
				}
			}
		}
	}
}

// A head that stands in the key's spare room, a text in the head's, and all three being one, are like any others.
func TestStreamsOfArgumentsThatShareMemory(t *testing.T) {
	for _, n := range []int{0, 1, 32, 64, 65, 100} {
		whole := pattern(n + 300)
		mustBlock(t, whole[:n], whole[n:n+100], 3)
		mustStream(t, whole[:n], whole[n:n+100], impl.MaxStream)
		mustMix(t, whole[:n], whole[n:n+100], whole[n+100:])
		mustMix(t, whole[n+100:], whole[n:n+100], whole[:n])
		mustMix(t, whole, whole[:100], whole[:200])
		mustMix(t, whole[:n], whole[:n], whole[:n])
		if !bytes.Equal(whole, pattern(n+300)) {
			t.Errorf("cut at %d, they were written into", n)
		}
	}
}

// What was asked, or refused, ahead leaves nothing behind.
func TestStreamsKeepNothing(t *testing.T) {
	key, head := pattern(32), []byte("head")
	for range 3 {
		mustNotStream(t, key, head, -1)
		mustNotStream(t, key, pattern(101), 100)
		mustNotMix(t, key, head, pattern(201))
		mustNotBlock(t, key, head, 7)
		mustStream(t, key, head, 100)
		mustMix(t, key, head, pattern(100))
		mustBlock(t, key, head, 6)
		scribble(impl.Stream(key, head, 100))
		scribble(impl.BlockOf(key, head, 6))
	}
}
