package tests

import (
	"bytes"
	"crypto/hmac"
	"crypto/sha256"
	"fmt"
	"slices"
	"strings"
	"testing"

	"loop.example/g00478/impl"
)

const mostKeyed = impl.MaxSha - blockSize

func hmacOf(key []byte, b []byte) []byte {
	m := hmac.New(sha256.New, key)
	m.Write(b)
	return m.Sum(nil)
}

// withNoughts: the key, and bytes 0 behind it until there are n in all.
func withNoughts(key []byte, n int) []byte {
	return slices.Concat(key, make([]byte, n-len(key)))
}

// keyLengths: those around a block's end, and around that of a sum, which a long key is cut to.
func keyLengths() []int {
	return []int{0, 1, 2, 16, 31, 32, 33, 62, 63, 64, 65, 66, 127, 128, 129, 300}
}

func mustHaveSums(t *testing.T, key []byte, b []byte) {
	t.Helper()
	want := hmacOf(key, b)
	if got := impl.Hmac(key, b); !bytes.Equal(got, want) {
		t.Errorf("Hmac of a key of %d bytes and %d bytes is %x, not %x", len(key), len(b), got, want)
	}
	if got := impl.Tag(key, b); !bytes.Equal(got, want[:16]) {
		t.Errorf("Tag of a key of %d bytes and %d bytes is %x, not %x", len(key), len(b), got, want[:16])
	}
}

func mustHaveNoSums(t *testing.T, key []byte, b []byte) {
	t.Helper()
	if got := impl.Hmac(key, b); len(got) != 0 {
		t.Errorf("Hmac of a key of %d bytes and %d bytes is %x", len(key), len(b), got)
	}
	if got := impl.Tag(key, b); len(got) != 0 {
		t.Errorf("Tag of a key of %d bytes and %d bytes is %x", len(key), len(b), got)
	}
}

func TestTagsHave16Bytes(t *testing.T) {
	if impl.TagLen != 16 || len(impl.Tag(nil, nil)) != 16 {
		t.Error(impl.TagLen, len(impl.Tag(nil, nil)))
	}
}

// The first seven are those of RFC 4231.
func TestKnownSumsWithAKey(t *testing.T) {
	counted := make([]byte, 25)
	for i := range counted {
		counted[i] = byte(i + 1)
	}
	fill := func(x byte, n int) []byte { return bytes.Repeat([]byte{x}, n) }
	for i, c := range []struct {
		key, b []byte
		want   string
	}{
		{fill(0x0b, 20), []byte("Hi There"), "b0344c61d8db38535ca8afceaf0bf12b881dc200c9833da726e9376c2e32cff7"},
		{[]byte("Jefe"), []byte("what do ya want for nothing?"), "5bdcc146bf60754e6a042426089575c75a003f089d2739839dec58b964ec3843"},
		{fill(0xaa, 20), fill(0xdd, 50), "773ea91e36800e46854db8ebd09181a72959098b3ef8c122d9635514ced565fe"},
		{counted, fill(0xcd, 50), "82558a389a443c0ea4cc819899f2083a85f0faa3e578f8077a2e3ff46729665b"},
		{fill(0x0c, 20), []byte("Test With Truncation"), "a3b6167473100ee06e0c796c2955552b"},
		{fill(0xaa, 131), []byte("Test Using Larger Than Block-Size Key - Hash Key First"), "60e431591ee0b67f0d8a26aacbf5b77f8e0bc6213728c5140546040f0ee37f54"},
		{fill(0xaa, 131), []byte("This is a test using a larger than block-size key and a larger than block-size data. The key needs to be hashed before being used by the HMAC algorithm."), "9b09ffa71b942fcb27635fbcd5b0e944bfdc63644f0713938a7f51535c3a35e2"},
		{nil, nil, "b613679a0814d9ec772f95d778c35fc5ff1697c493715653c6c712144292c5ad"},
		{[]byte("key"), []byte("The quick brown fox jumps over the lazy dog"), "f7bc83f430538424b13298e6aa6fb143ef4d59a14946175997479dbc2d1a3cd8"},
	} {
		if got := fmt.Sprintf("%x", impl.Hmac(c.key, c.b)); len(got) != 64 || !strings.HasPrefix(got, c.want) {
			t.Errorf("the sum %d is %s, not %s", i, got, c.want)
		}
		if got := fmt.Sprintf("%x", impl.Tag(c.key, c.b)); got != c.want[:32] {
			t.Errorf("the tag %d is %s, not %s", i, got, c.want[:32])
		}
	}
}

func TestBlockKeyFillsABlock(t *testing.T) {
	for n := range 65 {
		if got := impl.BlockKey(roomy(pattern(n)...)); !bytes.Equal(got, withNoughts(pattern(n), blockSize)) {
			t.Errorf("BlockKey of %d bytes is %x", n, got)
		}
	}
	if got := impl.BlockKey(nil); !bytes.Equal(got, make([]byte, blockSize)) {
		t.Errorf("BlockKey of nothing is %x", got)
	}
}

func TestBlockKeyOfLongKeysIsOfTheirSum(t *testing.T) {
	for _, n := range []int{65, 66, 127, 128, 129, 1000, impl.MaxSha - 1, impl.MaxSha} {
		if got := impl.BlockKey(pattern(n)); !bytes.Equal(got, withNoughts(shaOf(pattern(n)), blockSize)) {
			t.Errorf("BlockKey of %d bytes is %x", n, got)
		}
	}
}

func TestKeysHaveALimit(t *testing.T) {
	for _, n := range []int{impl.MaxSha - 1, impl.MaxSha} {
		mustHaveSums(t, pattern(n), nil)
		mustHaveSums(t, pattern(n), []byte("text"))
	}
	for _, n := range []int{impl.MaxSha + 1, impl.MaxSha + 64, 2 * impl.MaxSha} {
		key := pattern(n)
		if got := impl.BlockKey(key); len(got) != 0 {
			t.Errorf("BlockKey of %d bytes is %x", n, got)
		}
		mustHaveNoSums(t, key, nil)
		mustHaveNoSums(t, key, []byte("text"))
		mustHaveNoSums(t, key, pattern(mostKeyed))
		mustHaveNoSums(t, key, pattern(mostKeyed+1))
	}
}

func TestTextsWithAKeyHaveALimit(t *testing.T) {
	text := pattern(impl.MaxSha + 1)
	for _, n := range []int{0, 1, 64, 65, impl.MaxSha} {
		for _, most := range []int{mostKeyed - 1, mostKeyed} {
			mustHaveSums(t, pattern(n), text[:most])
		}
		for _, past := range []int{mostKeyed + 1, mostKeyed + 63, mostKeyed + 64, mostKeyed + 65} {
			mustHaveNoSums(t, pattern(n), text[:past])
		}
	}
}

func TestSumsWithAKeyAreAsTheLibraryDoes(t *testing.T) {
	for _, n := range keyLengths() {
		for _, m := range []int{0, 1, 54, 55, 56, 63, 64, 65, 119, 120, 128, 200} {
			mustHaveSums(t, roomy(pattern(n)...), roomy(pattern(m)...))
			mustHaveSums(t, bytes.Repeat([]byte{0xff}, n), make([]byte, m))
		}
	}
	mustHaveSums(t, nil, nil)
	mustHaveSums(t, []byte{}, []byte{})
}

// Each byte of a key and of a text counts, at whatever place it stands.
func TestSumsHangOnEachByte(t *testing.T) {
	for _, n := range []int{1, 63, 64, 65, 100} {
		key, b := pattern(n), pattern(n)
		was := impl.Tag(key, b)
		for i := range n {
			key[i] ^= 1
			if impl.SameTag(impl.Tag(key, b), was) {
				t.Errorf("the byte %d of %d of the key does not count", i, n)
			}
			key[i] ^= 1
			b[i] ^= 1
			if impl.SameTag(impl.Tag(key, b), was) {
				t.Errorf("the byte %d of %d of the text does not count", i, n)
			}
			b[i] ^= 1
		}
	}
}

// P3, for keys: bytes 0 behind a key change nothing, as long as there are at most 64 in all.
func TestBytes0BehindAKeyChangeNothing(t *testing.T) {
	keys := [][]byte{nil, {0}, {1}, {1, 0}, {0, 1}, {0, 0, 0}, []byte("Jefe"), pattern(16), pattern(32), pattern(62), pattern(63), pattern(64), make([]byte, 64)}
	for _, key := range keys {
		block := impl.BlockKey(key)
		for n := len(key); n <= blockSize; n++ {
			filled := withNoughts(key, n)
			if got := impl.BlockKey(filled); !bytes.Equal(got, block) || len(got) != blockSize {
				t.Errorf("%x, filled up to %d bytes: BlockKey is %x, not %x", key, n, got, block)
			}
			for _, m := range []int{0, 5, 64} {
				if got, want := impl.Hmac(filled, pattern(m)), hmacOf(key, pattern(m)); !bytes.Equal(got, want) {
					t.Errorf("%x, filled up to %d bytes: Hmac is %x, not %x", key, n, got, want)
				}
				if !impl.SameTag(impl.Tag(filled, pattern(m)), impl.Tag(key, pattern(m))) {
					t.Errorf("%x, filled up to %d bytes, has another tag", key, n)
				}
			}
		}
	}
}

func TestBytes0PastABlockMakeAnotherKey(t *testing.T) {
	for _, key := range [][]byte{nil, {1}, []byte("Jefe"), pattern(63), pattern(64)} {
		tag := impl.Tag(key, []byte("text"))
		for _, n := range []int{65, 66, 127, 128, 129} {
			filled := withNoughts(key, n)
			if got := impl.BlockKey(filled); !bytes.Equal(got, withNoughts(shaOf(filled), blockSize)) {
				t.Errorf("%x, filled up to %d bytes: BlockKey is %x", key, n, got)
			}
			if impl.SameTag(impl.Tag(filled, []byte("text")), tag) {
				t.Errorf("%x, filled up to %d bytes, has the same tag", key, n)
			}
			mustHaveSums(t, filled, []byte("text"))
		}
	}
}

// A long key is as good as its sum: that is what a block holds of it.
func TestALongKeyIsAsGoodAsItsSum(t *testing.T) {
	for _, n := range []int{65, 128, 1000} {
		if !bytes.Equal(impl.Hmac(pattern(n), []byte("text")), impl.Hmac(shaOf(pattern(n)), []byte("text"))) {
			t.Errorf("a key of %d bytes", n)
		}
	}
	if bytes.Equal(impl.Hmac(pattern(64), []byte("text")), impl.Hmac(shaOf(pattern(64)), []byte("text"))) {
		t.Error("a key of 64 bytes is itself, not its sum")
	}
}

func TestDiffIsOfAllPlaces(t *testing.T) {
	for _, c := range []struct {
		a, b []byte
		want int
	}{
		{nil, nil, 0},
		{nil, []byte{}, 0},
		{[]byte{}, []byte{}, 0},
		{[]byte{0}, []byte{0}, 0},
		{[]byte{255}, []byte{255}, 0},
		{[]byte{255}, []byte{0}, 255},
		{[]byte{0x80}, []byte{0}, 0x80},
		{[]byte{0xf0}, []byte{0x0f}, 0xff},
		{[]byte{1, 2}, []byte{1, 2}, 0},
		{[]byte{1, 2}, []byte{2, 1}, 3},
		{[]byte{1, 2, 4}, []byte{0, 0, 0}, 7},
		{[]byte{1, 1}, []byte{0, 0}, 1},
		{[]byte{1, 1, 1}, []byte{0, 0, 0}, 1},
		{[]byte{0x10, 5, 0x20}, []byte{0, 5, 0}, 0x30},
		{[]byte{255, 0, 0}, []byte{0, 0, 255}, 255},
		{[]byte{0x55, 0xaa}, []byte{0, 0}, 255},
	} {
		if got := impl.Diff(roomy(c.a...), roomy(c.b...)); got != c.want {
			t.Errorf("Diff(%x, %x) is %d, not %d", c.a, c.b, got, c.want)
		}
		if got := impl.Diff(c.b, c.a); got != c.want {
			t.Errorf("Diff(%x, %x) is %d, not %d", c.b, c.a, got, c.want)
		}
	}
}

func TestDiffSeesEachBitAtEachPlace(t *testing.T) {
	for _, n := range []int{1, 2, 15, 16, 17, 64, 300} {
		a, b := pattern(n), pattern(n)
		if got := impl.Diff(a, b); got != 0 {
			t.Errorf("Diff of %d bytes that are the same is %d", n, got)
		}
		for i := range n {
			for bit := range 8 {
				b[i] ^= 1 << bit
				if got := impl.Diff(a, b); got != 1<<bit {
					t.Errorf("Diff of %d bytes, the bit %d of the byte %d turned, is %d", n, bit, i, got)
				}
				b[i] = a[i]
			}
		}
	}
}

// The bytes that are there are the same: the length alone tells the lists apart, and the room behind must not fill it.
func TestDiffOfUnlikeLengthsIsBelow0(t *testing.T) {
	for _, c := range [][2]int{{0, 1}, {1, 2}, {15, 16}, {16, 17}, {0, 16}, {1, 300}, {32, 64}} {
		short, long := pattern(c[0]), pattern(c[1])
		if got := impl.Diff(roomy(short...), roomy(long...)); got != -1 {
			t.Errorf("Diff of %d and %d bytes is %d", c[0], c[1], got)
		}
		if got := impl.Diff(roomy(long...), roomy(short...)); got != -1 {
			t.Errorf("Diff of %d and %d bytes is %d", c[1], c[0], got)
		}
		if got := impl.Diff(long[:c[0]], long); got != -1 {
			t.Errorf("Diff of %d of %d bytes is %d", c[0], c[1], got)
		}
	}
	if impl.Diff(nil, []byte{0}) != -1 || impl.Diff([]byte{0}, nil) != -1 || impl.Diff(make([]byte, 3), make([]byte, 4)) != -1 {
		t.Error("bytes 0 count, too")
	}
}

// P3, for tags: they are the same where all bytes are, and with a bit turned, at whatever place, they are not.
func TestTagsAreTheSameWhereAllBytesAre(t *testing.T) {
	for _, tag := range [][]byte{make([]byte, 16), bytes.Repeat([]byte{0xff}, 16), pattern(16), impl.Tag([]byte("key"), []byte("text"))} {
		other := slices.Clone(tag)
		if !impl.SameTag(tag, other) || !impl.SameTag(tag, tag) {
			t.Errorf("%x is not the same", tag)
		}
		for i := range tag {
			for bit := range 8 {
				other[i] ^= 1 << bit
				if impl.SameTag(tag, other) || impl.SameTag(other, tag) {
					t.Errorf("%x and %x are the same", tag, other)
				}
				other[i] = tag[i]
			}
		}
		for i := range tag {
			other[i] ^= 0xff
			if impl.SameTag(tag, other) {
				t.Errorf("%x and %x are the same", tag, other)
			}
		}
	}
}

// Differences that are alike, at two places, must not make up for each other.
func TestTagsThatDifferTwiceAreNotTheSame(t *testing.T) {
	tag := pattern(16)
	for i := range tag {
		for j := range i {
			other := slices.Clone(tag)
			other[i] ^= 0x81
			other[j] ^= 0x81
			if impl.SameTag(tag, other) {
				t.Errorf("turned at %d and %d they are the same", i, j)
			}
		}
	}
}

func TestTagsOfOtherLengthsAreNeverTheSame(t *testing.T) {
	lengths := []int{0, 1, 8, 15, 16, 17, 31, 32, 64}
	for _, n := range lengths {
		for _, m := range lengths {
			want := n == 16 && m == 16
			if got := impl.SameTag(roomy(pattern(n)...), roomy(pattern(m)...)); got != want {
				t.Errorf("of %d and %d bytes: %v", n, m, got)
			}
			if got := impl.SameTag(make([]byte, n), make([]byte, m)); got != want {
				t.Errorf("of %d and %d bytes 0: %v", n, m, got)
			}
		}
	}
	if impl.SameTag(nil, nil) || impl.SameTag(nil, pattern(16)) || impl.SameTag(pattern(16), nil) {
		t.Error("nothing is no tag")
	}
}

// Lengths of keys and of texts to watch, those that are refused among them.
func watchedLengths() ([]int, []int) {
	return []int{0, 1, 63, 64, 65, 200, impl.MaxSha + 1}, []int{0, 1, 16, 64, 200, mostKeyed + 1}
}

func TestKeyedSumsWriteIntoNoArgument(t *testing.T) {
	keys, texts := watchedLengths()
	for _, n := range keys {
		for _, m := range texts {
			key, b := roomy(pattern(n)...), roomy(pattern(m)...)
			answers := [][]byte{impl.BlockKey(key), impl.Hmac(key, b), impl.Tag(key, b)}
			impl.Diff(key, b)
			impl.SameTag(key, b)
			if !bytes.Equal(key, pattern(n)) || !bytes.Equal(b, pattern(m)) {
				t.Fatalf("the arguments of %d and %d bytes were written into", n, m)
			}
			mustBeUntouched(t, "the key", key[n:])
			mustBeUntouched(t, "the text", b[m:])
			for _, a := range answers {
				scribble(a)
			}
			if !bytes.Equal(key, pattern(n)) || !bytes.Equal(b, pattern(m)) {
				t.Fatalf("the arguments of %d and %d bytes were written with an answer", n, m)
			}
			mustBeUntouched(t, "the key, with an answer", key[n:])
			mustBeUntouched(t, "the text, with an answer", b[m:])
		}
	}
}

func TestTagsAreComparedWithoutWriting(t *testing.T) {
	for _, n := range []int{0, 15, 16, 17} {
		for _, m := range []int{0, 15, 16, 17} {
			a, b := roomy(pattern(n)...), roomy(make([]byte, m)...)
			impl.Diff(a, b)
			impl.SameTag(a, b)
			mustBeUntouched(t, "the first", a, pattern(n)...)
			mustBeUntouched(t, "the second", b, make([]byte, m)...)
		}
	}
}

// An answer stays as it was when its arguments, or another answer of them, are written over.
func TestKeyedSumsShareNoMemory(t *testing.T) {
	for _, n := range []int{0, 1, 63, 64, 65, 200} {
		for _, m := range []int{0, 1, 64, 200} {
			key, b := roomy(pattern(n)...), roomy(pattern(m)...)
			answers := func() [][]byte {
				return [][]byte{impl.BlockKey(key), impl.Hmac(key, b), impl.Tag(key, b)}
			}
			kept, other := answers(), answers()
			for _, a := range append(other, key, b) {
				scribble(a)
			}
			want := [][]byte{impl.BlockKey(pattern(n)), hmacOf(pattern(n), pattern(m)), hmacOf(pattern(n), pattern(m))[:16]}
			for i := range want {
				if !bytes.Equal(kept[i], want[i]) {
					t.Errorf("the answer %d of %d and %d bytes is %x now, not %x", i, n, m, kept[i], want[i])
				}
			}
		}
	}
}

// A text that stands right behind its key, in the key's spare room, or that is the key, is like any other.
func TestArgumentsMayShareMemory(t *testing.T) {
	for _, n := range []int{0, 1, 20, 63, 64, 65} {
		whole := pattern(200)
		mustHaveSums(t, whole[:n], whole[n:])
		mustHaveSums(t, whole[:n], whole)
		mustHaveSums(t, whole[n:], whole[:n])
		mustHaveSums(t, whole, whole)
		if !bytes.Equal(whole, pattern(200)) {
			t.Errorf("cut at %d, they were written into", n)
		}
	}
	tag := pattern(32)
	if !impl.SameTag(tag[:16], tag[:16]) || impl.SameTag(tag[:16], tag[1:17]) || impl.SameTag(tag[:16], tag[16:]) {
		t.Error("tags of one list")
	}
}
