package tests

import (
	"bytes"
	"crypto/hkdf"
	"crypto/sha256"
	"fmt"
	"math"
	"strings"
	"testing"

	"loop.example/g00478/impl"
)

const sumSize = 32

func expandOf(t *testing.T, prk []byte, info []byte, n int) []byte {
	t.Helper()
	b, err := hkdf.Expand(sha256.New, prk, string(info), n)
	if err != nil {
		t.Fatal(err)
	}
	return b
}

// linksOf: the keys of a chain, the library's way; the i-th is what i times lead to.
func linksOf(t *testing.T, key []byte, n int) [][]byte {
	t.Helper()
	links := [][]byte{key}
	for range n {
		links = append(links, expandOf(t, links[len(links)-1], []byte("rekey"), sumSize))
	}
	return links
}

// counted: n bytes, each one greater than the one ahead.
func counted(from byte, n int) []byte {
	b := make([]byte, n)
	for i := range b {
		b[i] = from + byte(i)
	}
	return b
}

func mustExpand(t *testing.T, prk []byte, info []byte, n int) {
	t.Helper()
	want := expandOf(t, prk, info, n)
	if got, ok := impl.Expand(prk, info, n); !ok || !bytes.Equal(got, want) {
		t.Errorf("Expand of a prk of %d and an info of %d bytes to %d is %x, %v, not %x", len(prk), len(info), n, got, ok, want)
	}
}

func mustNotExpand(t *testing.T, prk []byte, info []byte, n int) {
	t.Helper()
	if got, ok := impl.Expand(prk, info, n); ok || len(got) != 0 {
		t.Errorf("Expand of a prk of %d and an info of %d bytes to %d is %x, %v", len(prk), len(info), n, got, ok)
	}
}

func mustDerive(t *testing.T, key []byte, label string) {
	t.Helper()
	want := expandOf(t, key, []byte(label), sumSize)
	if got := impl.Derive(key, label); !bytes.Equal(got, want) {
		t.Errorf("Derive of a key of %d bytes with %q is %x, not %x", len(key), label, got, want)
	}
}

func mustNotDerive(t *testing.T, key []byte, label string) {
	t.Helper()
	if got := impl.Derive(key, label); len(got) != 0 {
		t.Errorf("Derive of a key of %d bytes with %d bytes is %x", len(key), len(label), got)
	}
}

func mustChain(t *testing.T, key []byte, n int, want []byte) {
	t.Helper()
	if got := impl.Chain(key, n); !bytes.Equal(got, want) {
		t.Errorf("Chain of %d, from %d bytes on, is %d bytes: %.80x, not %.80x", n, len(key), len(got), got, want)
	}
}

func TestLimitsOfKeys(t *testing.T) {
	if impl.KeyLen != 32 || impl.MaxExpand != 8160 || impl.MaxInfo != 100 || impl.MaxChain != 64 {
		t.Error(impl.KeyLen, impl.MaxExpand, impl.MaxInfo, impl.MaxChain)
	}
}

// Those of RFC 5869 that are over SHA-256.
func TestKnownKeysOfKeys(t *testing.T) {
	for i, c := range []struct {
		salt, ikm, info []byte
		prk, okm        string
	}{
		{counted(0, 13), bytes.Repeat([]byte{0x0b}, 22), counted(0xf0, 10), "077709362c2e32df0ddc3f0dc47bba6390b6c73bb50f9c3122ec844ad7c2b3e5", "3cb25f25faacd57a90434f64d0362f2a2d2d0a90cf1a5a4c5db02d56ecc4c5bf34007208d5b887185865"},
		{counted(0x60, 80), counted(0, 80), counted(0xb0, 80), "06a6b88c5853361a06104c9ceb35b45cef760014904671014a193f40c15fc244", "b11e398dc80327a1c8e7f78c596a49344f012eda2d4efad8a050cc4c19afa97c59045a99cac7827271cb41c65e590e09da3275600c2f09b8367793a9aca3db71cc30c58179ec3e87c14c01d5c1f3434f1d87"},
		{nil, bytes.Repeat([]byte{0x0b}, 22), nil, "19ef24a32c717b167f33a91d6f648bdf96596776afdb6377ac434c1c293ccb04", "8da4e775a563c18f715f802a063c5a31b8a11f5c5ee1879ec3454e5f3c738d2d9d201395faa4b61a96c8"},
	} {
		prk := impl.Extract(c.salt, c.ikm)
		if got := fmt.Sprintf("%x", prk); got != c.prk {
			t.Errorf("the key %d that is extracted is %s, not %s", i, got, c.prk)
		}
		okm, ok := impl.Expand(prk, c.info, len(c.okm)/2)
		if got := fmt.Sprintf("%x", okm); !ok || got != c.okm {
			t.Errorf("the bytes %d that are expanded are %s, %v, not %s", i, got, ok, c.okm)
		}
	}
}

func TestKnownLabelsAndChains(t *testing.T) {
	for _, c := range []struct {
		key         []byte
		label, want string
	}{
		{nil, "", "3d7afb663124ecbf2c953f863d4fc8796eeb2d372b64aad58697ec5264649cdb"},
		{nil, "rekey", "f17d1573fbfeaae5e4eab3c2ce15993786de84e47d038cb44042eacdf2780340"},
		{counted(0, 32), "", "9b4c8120a4823a95f47cde17a244f4507244ee6e3957d1fab9fa29b44d3829b7"},
		{counted(0, 32), "rekey", "3f62d86de46c5fab3afb28eaafd4895619345462030ddcd8973772b41b1be12a"},
		{counted(0, 32), "epoch", "3266462972ed9b37574a0100fb5b31769d5033e466298c72cb2073af2e95fccb"},
		{counted(0, 32), "\xff\xfe", "6be678da5c90391215bb795ed1abee3d17a83c551e9a69aff76f71246885084c"},
		{[]byte("Jefe"), "\u00e9", "306109c4810104e63459e657457166eca51692320c3d8902c9737a6574275e62"},
	} {
		if got := fmt.Sprintf("%x", impl.Derive(c.key, c.label)); got != c.want {
			t.Errorf("Derive of %x with %q is %s, not %s", c.key, c.label, got, c.want)
		}
	}
	for _, c := range []struct {
		key  []byte
		n    int
		want string
	}{
		{nil, 2, "7d49f4f12563fbf7bedb6c551c2c71f6782b7727df751a085d45a43fe40b7dc3"},
		{nil, 64, "3cd7cac6748382438cabfa49408a97fe0edcf710772650c823ce4f6063c06f3e"},
		{counted(0, 32), 1, "3f62d86de46c5fab3afb28eaafd4895619345462030ddcd8973772b41b1be12a"},
		{counted(0, 32), 2, "1ee5d3966040ac190fc50af6accd7ca5d0190bc1328613dc082653b58ea061f3"},
		{counted(0, 32), 64, "5f2fdceda34f5de1570617d62fdb9de586f487fa4d7f34b48171e36637cb7190"},
		{[]byte("Jefe"), 64, "42a5ef4f627160bf8e745d96092a7e526af4d6cb12ec7eafeff27046825d4f4a"},
	} {
		if got := fmt.Sprintf("%x", impl.Chain(c.key, c.n)); got != c.want {
			t.Errorf("Chain of %d, from %x on, is %s, not %s", c.n, c.key, got, c.want)
		}
	}
}

func mustExtract(t *testing.T, salt []byte, ikm []byte) {
	t.Helper()
	if got, want := impl.Extract(salt, ikm), hmacOf(salt, ikm); !bytes.Equal(got, want) {
		t.Errorf("Extract with a salt of %d bytes of %d bytes is %x, not %x", len(salt), len(ikm), got, want)
	}
}

func TestExtractIsASumWithTheSaltAsKey(t *testing.T) {
	for _, n := range keyLengths() {
		for _, m := range keyLengths() {
			mustExtract(t, roomy(pattern(n)...), roomy(counted(7, m)...))
		}
	}
	mustExtract(t, nil, nil)
	mustExtract(t, []byte("salt"), nil)
	mustExtract(t, nil, []byte("text"))
	if bytes.Equal(impl.Extract([]byte("a"), []byte("b")), impl.Extract([]byte("b"), []byte("a"))) {
		t.Error("salt and text are the same thing")
	}
}

func TestExtractHasTheLimitsOfSums(t *testing.T) {
	long := pattern(impl.MaxSha + 1)
	mustExtract(t, long[:impl.MaxSha], nil)
	mustExtract(t, long[:impl.MaxSha], []byte("text"))
	mustExtract(t, nil, long[:mostKeyed])
	mustExtract(t, long[:impl.MaxSha], long[:mostKeyed])
	for _, c := range []struct{ salt, ikm []byte }{
		{long, nil}, {long, []byte("text")}, {nil, long[:mostKeyed+1]}, {[]byte("salt"), long[:mostKeyed+1]}, {[]byte("salt"), long}, {long, long[:mostKeyed]}, {long, long},
	} {
		if got := impl.Extract(c.salt, c.ikm); len(got) != 0 {
			t.Errorf("Extract with a salt of %d bytes of %d bytes is %x", len(c.salt), len(c.ikm), got)
		}
	}
}

func TestExpandIsAsTheLibraryDoes(t *testing.T) {
	for _, n := range keyLengths() {
		for _, m := range []int{0, 1, 5, 22, 23, 31, 32, 33, 54, 55, 63, 64, 87, 99, 100} {
			for _, size := range []int{0, 1, 31, 32, 33, 63, 64, 65, 96, 200} {
				mustExpand(t, roomy(pattern(n)...), roomy(counted(3, m)...), size)
			}
		}
	}
	mustExpand(t, nil, nil, 0)
	mustExpand(t, nil, nil, 1)
	mustExpand(t, nil, nil, impl.MaxExpand)
	mustExpand(t, []byte{}, []byte{}, 33)
	mustExpand(t, bytes.Repeat([]byte{0xff}, 32), make([]byte, 100), impl.MaxExpand)
	mustExpand(t, make([]byte, 32), bytes.Repeat([]byte{0xff}, 100), impl.MaxExpand-1)
}

// Each limit is met and passed beside each other one: one argument that is wrong is enough.
func TestExpandHasLimits(t *testing.T) {
	for _, n := range []int{-1, 0, 1, 31, 32, 33, impl.MaxExpand - 1, impl.MaxExpand, impl.MaxExpand + 1} {
		for _, m := range []int{0, impl.MaxInfo - 1, impl.MaxInfo, impl.MaxInfo + 1} {
			for _, k := range []int{0, impl.MaxSha, impl.MaxSha + 1} {
				if n < 0 || n > 8160 || m > 100 || k > 1048576 {
					mustNotExpand(t, pattern(k), counted(0, m), n)
				} else {
					mustExpand(t, pattern(k), counted(0, m), n)
				}
			}
		}
	}
}

func TestExpandRefusesFarSizes(t *testing.T) {
	for _, n := range []int{-2, -31, -32, -33, -impl.MaxExpand, impl.MaxExpand + 31, impl.MaxExpand + 32, impl.MaxExpand + 33, 1 << 20, 1 << 32, 1<<32 + 1, -(1 << 32), math.MaxInt, math.MaxInt - 31, math.MinInt, math.MinInt + 1} {
		mustNotExpand(t, pattern(32), []byte("info"), n)
		mustNotExpand(t, nil, nil, n)
	}
	for _, m := range []int{impl.MaxInfo + 1, 101, 127, 128, 256, 300, 356, 5000, impl.MaxSha, impl.MaxSha + 1} {
		mustNotExpand(t, pattern(32), pattern(m), 0)
		mustNotExpand(t, pattern(32), pattern(m), 32)
	}
	for _, k := range []int{impl.MaxSha + 1, impl.MaxSha + 64, 2 * impl.MaxSha} {
		mustNotExpand(t, pattern(k), nil, 0)
		mustNotExpand(t, pattern(k), nil, 32)
	}
}

// P4, for what is expanded: around each block's end, fewer bytes are the beginning of all of them.
func TestFewerBytesAreTheBeginningOfMore(t *testing.T) {
	for _, c := range []struct{ prk, info []byte }{{nil, nil}, {pattern(32), []byte("info")}, {pattern(200), counted(0, impl.MaxInfo)}} {
		most, ok := impl.Expand(c.prk, c.info, impl.MaxExpand)
		if !ok || !bytes.Equal(most, expandOf(t, c.prk, c.info, impl.MaxExpand)) {
			t.Fatalf("a prk of %d and an info of %d bytes: %x, %v", len(c.prk), len(c.info), most, ok)
		}
		for end := 0; end <= impl.MaxExpand; end += sumSize {
			for n := max(end-1, 0); n <= min(end+1, impl.MaxExpand); n++ {
				if got, ok := impl.Expand(c.prk, c.info, n); !ok || !bytes.Equal(got, most[:n]) {
					t.Errorf("a prk of %d and an info of %d bytes: %d bytes are not the beginning of %d", len(c.prk), len(c.info), n, len(most))
				}
			}
		}
	}
}

func TestEachSizeIsTheBeginningOfEachGreaterOne(t *testing.T) {
	prk, info := pattern(32), []byte("info")
	ahead := []byte{}
	for n := range 300 {
		got, ok := impl.Expand(prk, info, n)
		if !ok || len(got) != n || !bytes.HasPrefix(got, ahead) {
			t.Errorf("%d bytes do not go on from %d: %x, %v", n, len(ahead), got, ok)
		}
		ahead = got
	}
}

// No block comes twice: the byte behind info and the block ahead both count.
func TestBlocksAreUnlike(t *testing.T) {
	for _, info := range [][]byte{nil, {1}, {0}, counted(0, impl.MaxInfo)} {
		all, _ := impl.Expand(pattern(32), info, impl.MaxExpand)
		met := map[string]int{}
		for at := 0; at+sumSize <= len(all); at += sumSize {
			met[string(all[at:at+sumSize])]++
		}
		if len(met) != 255 {
			t.Errorf("with %x there are %d blocks", info, len(met))
		}
	}
}

func TestKeysHangOnEachByte(t *testing.T) {
	for _, n := range []int{1, 32, 64, 65, 100} {
		prk, info := pattern(n), pattern(n)
		was, ok := impl.Expand(prk, info, 33)
		if !ok {
			t.Fatal(n)
		}
		for i := range n {
			prk[i] ^= 1
			if got, _ := impl.Expand(prk, info, 33); bytes.Equal(got[:32], was[:32]) || len(got) != 33 {
				t.Errorf("the byte %d of %d of prk does not count", i, n)
			}
			prk[i] ^= 1
			info[i] ^= 1
			if got, _ := impl.Expand(prk, info, 33); bytes.Equal(got[:32], was[:32]) || len(got) != 33 {
				t.Errorf("the byte %d of %d of info does not count", i, n)
			}
			info[i] ^= 1
		}
	}
}

// A label is its bytes: those that are no runes, and those of runes of more than one, are not turned into others.
func TestDeriveTakesAnyBytesAsALabel(t *testing.T) {
	labels := []string{"", "rekey", "epoch", "jar", "finish", " ", "\x00", "rekey\x00", "REKEY", "\xff", "\xff\xfe", "\xc3", "a\x80b", "\ufffd", "\u00e9", "\U0001f600", "\xed\xa0\x80"}
	for _, n := range keyLengths() {
		for _, label := range labels {
			mustDerive(t, roomy(pattern(n)...), label)
		}
	}
	mustDerive(t, nil, "")
	met := map[string]string{}
	for _, label := range labels {
		key := string(impl.Derive(pattern(32), label))
		if other, ok := met[key]; ok || len(key) != impl.KeyLen {
			t.Errorf("%q and %q lead to one key, or to none: %x", label, other, key)
		}
		met[key] = label
	}
}

// The limit is one of bytes, not of runes.
func TestDeriveHasLimits(t *testing.T) {
	for _, label := range []string{strings.Repeat("a", 99), strings.Repeat("a", 100), strings.Repeat("\u00e9", 50), strings.Repeat("\xff", 100), strings.Repeat("\x00", 100), strings.Repeat("\U0001f600", 25)} {
		mustDerive(t, pattern(32), label)
		mustDerive(t, nil, label)
		mustDerive(t, pattern(impl.MaxSha), label)
		mustNotDerive(t, pattern(impl.MaxSha+1), label)
	}
	for _, label := range []string{strings.Repeat("a", 101), strings.Repeat("\u00e9", 50) + "a", strings.Repeat("\u00e9", 51), strings.Repeat("\u00e9", 100), strings.Repeat("\xff", 101), strings.Repeat("\x00", 101), strings.Repeat("rekey", 1000)} {
		mustNotDerive(t, pattern(32), label)
		mustNotDerive(t, nil, label)
		mustNotDerive(t, pattern(impl.MaxSha+1), label)
	}
	mustDerive(t, pattern(impl.MaxSha), "")
	mustNotDerive(t, pattern(impl.MaxSha+1), "")
}

func chainKeys() [][]byte {
	return [][]byte{nil, {0}, []byte("Jefe"), pattern(31), pattern(32), pattern(33), pattern(64), pattern(65), pattern(300), make([]byte, 32)}
}

func TestChainIsDerivedStepByStep(t *testing.T) {
	for _, key := range chainKeys() {
		for n, want := range linksOf(t, key, impl.MaxChain) {
			mustChain(t, roomy(key...), n, want)
		}
	}
}

func TestChainAtItsEdges(t *testing.T) {
	for _, key := range append(chainKeys(), pattern(impl.MaxSha), pattern(impl.MaxSha+1)) {
		mustChain(t, key, 0, key)
		mustChain(t, key, 1, impl.Derive(key, "rekey"))
		for _, n := range []int{-1, -2, -64, impl.MaxChain + 1, 66, 128, 256, 1 << 32, 1<<32 + 1, math.MaxInt, math.MinInt, math.MinInt + 1} {
			mustChain(t, key, n, nil)
		}
	}
	links := linksOf(t, pattern(impl.MaxSha), 2)
	mustChain(t, pattern(impl.MaxSha), 1, links[1])
	mustChain(t, pattern(impl.MaxSha), 2, links[2])
}

// Of a key that is too long Derive is nothing, and the chain goes on from no bytes at all: just so it is told.
func TestChainOfAKeyThatIsTooLong(t *testing.T) {
	key := pattern(impl.MaxSha + 1)
	mustChain(t, key, 0, key)
	for n, want := range linksOf(t, nil, impl.MaxChain-1) {
		mustChain(t, key, n+1, want)
	}
}

// P4, for chains: n and then m more are as good as both at once, wherever the cut is.
func TestAChainGoesOnFromWhereItWas(t *testing.T) {
	for _, key := range [][]byte{nil, []byte("Jefe"), pattern(32)} {
		links := make([][]byte, impl.MaxChain+1)
		for n := range links {
			links[n] = impl.Chain(key, n)
		}
		for n, link := range links {
			for m := range links[n:] {
				mustChain(t, link, m, links[n+m])
			}
		}
	}
	for _, key := range append(chainKeys(), pattern(impl.MaxSha), pattern(impl.MaxSha+1)) {
		for _, c := range [][2]int{{0, 0}, {0, 1}, {1, 0}, {1, 1}, {0, 64}, {64, 0}, {1, 63}, {63, 1}, {32, 32}, {20, 30}} {
			mustChain(t, impl.Chain(key, c[0]), c[1], impl.Chain(key, c[0]+c[1]))
		}
	}
}

// Each of a chain's keys is another one.
func TestKeysOfAChainAreUnlike(t *testing.T) {
	met := map[string]int{}
	for n := range impl.MaxChain + 1 {
		met[string(impl.Chain(pattern(32), n))]++
	}
	if len(met) != impl.MaxChain+1 {
		t.Errorf("there are %d keys", len(met))
	}
}

// keyAnswers: all that chapter 4 answers of these, those of refused sizes among them.
func keyAnswers(key []byte, b []byte) [][]byte {
	answers := [][]byte{impl.Extract(key, b), impl.Extract(b, key), impl.Derive(key, "rekey"), impl.Derive(key, strings.Repeat("a", 101))}
	for _, n := range []int{-1, 0, 1, 31, 32, 33, 100, impl.MaxExpand, impl.MaxExpand + 1} {
		got, _ := impl.Expand(key, b, n)
		answers = append(answers, got)
	}
	for _, n := range []int{-1, 0, 1, 2, impl.MaxChain, impl.MaxChain + 1} {
		answers = append(answers, impl.Chain(key, n))
	}
	return answers
}

func TestKeysWriteIntoNoArgumentAndShareNone(t *testing.T) {
	for _, n := range []int{0, 1, 31, 32, 33, 64, 65, impl.MaxSha + 1} {
		for _, m := range []int{0, 1, 64, 100, 101, 200} {
			key, b := roomy(pattern(n)...), roomy(counted(9, m)...)
			answers := keyAnswers(key, b)
			if !bytes.Equal(key, pattern(n)) {
				t.Fatalf("the key of %d bytes was written into", n)
			}
			mustBeUntouched(t, "the key's room", key[n:])
			mustBeUntouched(t, "the other one", b, counted(9, m)...)
			for _, a := range answers {
				scribble(a)
			}
			if !bytes.Equal(key, pattern(n)) {
				t.Fatalf("the key of %d bytes was written with an answer", n)
			}
			mustBeUntouched(t, "the key's room, with an answer", key[n:])
			mustBeUntouched(t, "the other one, with an answer", b, counted(9, m)...)
		}
	}
}

// An answer stays as it was when its arguments and all other answers of them are written over.
func TestKeysStayAsTheyWere(t *testing.T) {
	for _, n := range []int{0, 1, 32, 64, 65} {
		for _, m := range []int{0, 1, 100, 101} {
			want := keyAnswers(pattern(n), counted(9, m))
			for i := range want {
				key, b := roomy(pattern(n)...), roomy(counted(9, m)...)
				answers := keyAnswers(key, b)
				for j, a := range append(answers, keyAnswers(key, b)...) {
					if j != i {
						scribble(a)
					}
				}
				scribble(key)
				scribble(b)
				if !bytes.Equal(answers[i], want[i]) {
					t.Errorf("the answer %d of %d and %d bytes is %x now, not %x", i, n, m, answers[i], want[i])
				}
			}
		}
	}
}

func TestChainOfNoneIsACopy(t *testing.T) {
	for _, n := range []int{0, 1, 32, 100, impl.MaxSha + 1} {
		key := roomy(pattern(n)...)
		got := impl.Chain(key, 0)
		if !bytes.Equal(got, pattern(n)) {
			t.Fatalf("Chain of 0, from %d bytes on, is %d others", n, len(got))
		}
		scribble(key)
		if !bytes.Equal(got, pattern(n)) {
			t.Errorf("Chain of 0, from %d bytes on, was written with the key", n)
		}
		key = roomy(pattern(n)...)
		scribble(append(impl.Chain(key, 0), 1, 2, 3))
		if !bytes.Equal(key, pattern(n)) {
			t.Errorf("the key of %d bytes was written with Chain of 0", n)
		}
		mustBeUntouched(t, "the room behind the key", key[n:])
	}
}

// An info that stands in prk's spare room, or that is prk, is like any other.
func TestKeysOfArgumentsThatShareMemory(t *testing.T) {
	for _, n := range []int{0, 1, 32, 64, 65, 100} {
		whole := pattern(n + 100)
		mustExpand(t, whole[:n], whole[n:], 100)
		mustExpand(t, whole[n:], whole[:n], 100)
		mustExpand(t, whole[:n], whole[:n], 100)
		mustExpand(t, whole, whole[:100], 100)
		mustExtract(t, whole[:n], whole[n:])
		mustExtract(t, whole[n:], whole)
		mustExtract(t, whole, whole)
		mustChain(t, whole[:n], 3, linksOf(t, pattern(n), 3)[3])
		if !bytes.Equal(whole, pattern(n+100)) {
			t.Errorf("cut at %d, they were written into", n)
		}
	}
}

// What was asked, or refused, ahead leaves nothing behind.
func TestKeysKeepNothing(t *testing.T) {
	want := expandOf(t, pattern(32), []byte("info"), 100)
	for range 3 {
		mustNotExpand(t, pattern(32), []byte("info"), -1)
		mustNotExpand(t, pattern(32), pattern(101), 100)
		got, ok := impl.Expand(pattern(32), []byte("info"), 100)
		if !ok || !bytes.Equal(got, want) {
			t.Errorf("%x, %v", got, ok)
		}
		scribble(got)
		mustChain(t, pattern(32), impl.MaxChain+1, nil)
		mustChain(t, pattern(32), 2, linksOf(t, pattern(32), 2)[2])
	}
}
