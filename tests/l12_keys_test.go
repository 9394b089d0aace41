package tests

import (
	"bytes"
	"crypto/hkdf"
	"crypto/sha256"
	"encoding/binary"
	"encoding/hex"
	"math"
	"slices"
	"strings"
	"testing"

	"loop.example/g00478/impl"
)

const (
	mostEpochsOfAChain = 64
	sizeOfProofBody    = 46
)

// A finishing is the word that is shared, and what a proof is made of.
type finishing struct {
	psk    []byte
	id     int
	cn, sn []byte
	tick   int
	cookie []byte
}

// The reading of the chapter, the library's way, for whatever comes.

func pskIsRight(psk []byte) bool {
	return len(psk) > 0 && len(psk) < 33
}

func noncesAreRight(cn []byte, sn []byte) bool {
	return len(cn) == sizeOfNonce && len(sn) == sizeOfNonce
}

func finishKeyOf(psk []byte) []byte {
	if !pskIsRight(psk) {
		return nil
	}
	return libraryKey(hkdf.Key(sha256.New, psk, []byte("roam"), "finish", sizeOfKey))
}

func rootKeyOf(psk []byte, cn []byte, sn []byte) []byte {
	if !pskIsRight(psk) || !noncesAreRight(cn, sn) {
		return nil
	}
	return libraryKey(hkdf.Extract(sha256.New, psk, slices.Concat(cn, sn)))
}

func firstKeyOf(root []byte) []byte {
	if len(root) != sizeOfKey {
		return nil
	}
	return libraryKey(hkdf.Expand(sha256.New, root, "epoch", sizeOfKey))
}

func epochKeyOf(psk []byte, cn []byte, sn []byte, n int) []byte {
	key := firstKeyOf(rootKeyOf(psk, cn, sn))
	if len(key) == 0 || n < 0 || n > mostEpochsOfAChain {
		return nil
	}
	for range n {
		key = libraryKey(hkdf.Expand(sha256.New, key, "rekey", sizeOfKey))
	}
	return key
}

// libraryKey panics rather than hold an answer against no key.
func libraryKey(key []byte, err error) []byte {
	if err != nil {
		panic(err)
	}
	return key
}

func cookieIsRight(f finishing) bool {
	return noncesAreRight(f.cn, f.sn) && timeIsRight(f.tick) && len(f.cookie) == sizeOfTag
}

func proofBodyOf(f finishing) []byte {
	if f.id < 1 || f.id > 9 || !cookieIsRight(f) {
		return nil
	}
	tick := binary.BigEndian.AppendUint32(nil, uint32(f.tick))
	return slices.Concat([]byte{'f', byte(f.id)}, f.cn, f.sn, tick, f.cookie)
}

func proofOf(f finishing) []byte {
	body := proofBodyOf(f)
	if len(body) == 0 || !pskIsRight(f.psk) {
		return nil
	}
	return hmacOf(finishKeyOf(f.psk), body)[:sizeOfTag]
}

func finishingOf(psk []byte, f impl.Frame) finishing {
	return finishing{psk, f.Id, f.Cn, f.Sn, f.Tick, f.Cookie}
}

func finishedOf(psk []byte, id int, f impl.Frame) (impl.Frame, bool) {
	if f.Kind != 2 || !frameIsRight(f) {
		return impl.Frame{}, false
	}
	asked := finishing{psk, id, f.Cn, f.Sn, f.Tick, f.Cookie}
	proof := proofOf(asked)
	if len(proof) == 0 {
		return impl.Frame{}, false
	}
	return asked.finish(proof), true
}

func proofIsRight(psk []byte, f impl.Frame) bool {
	proof := proofOf(finishingOf(psk, f))
	return f.Kind == 3 && frameIsRight(f) && len(proof) > 0 && bytes.Equal(f.Proof, proof)
}

func (f finishing) given() impl.Frame {
	return impl.Frame{Kind: impl.KCookie, Cn: f.cn, Sn: f.sn, Tick: f.tick, Cookie: f.cookie}
}

func (f finishing) finish(proof []byte) impl.Frame {
	return impl.Frame{Kind: impl.KFinish, Id: f.id, Cn: f.cn, Sn: f.sn, Tick: f.tick, Cookie: f.cookie, Proof: proof}
}

func someFinishing() finishing {
	return finishing{[]byte("a word beforehand"), 2, counted(10, 12), counted(50, 12), 300, counted(90, 16)}
}

func somePsks() [][]byte {
	return [][]byte{[]byte("w"), []byte("word"), []byte("word\x00"), make([]byte, 1), make([]byte, 32), bytes.Repeat([]byte{255}, 32), counted(1, 31)}
}

// finishings: several words, ids, nonces, ticks and cookies, each with each.
func finishings() []finishing {
	l := []finishing{}
	for _, psk := range somePsks() {
		for _, id := range []int{1, 2, 9} {
			for _, cn := range [][]byte{counted(10, 12), make([]byte, 12)} {
				for _, sn := range [][]byte{counted(10, 12), bytes.Repeat([]byte{255}, 12)} {
					for _, tick := range []int{0, 1, 256, 65536, lastTick} {
						for _, cookie := range [][]byte{counted(90, 16), make([]byte, 16)} {
							l = append(l, finishing{psk, id, cn, sn, tick, cookie})
						}
					}
				}
			}
		}
	}
	return l
}

func mustFinishKeyAsTold(t *testing.T, psk []byte) []byte {
	t.Helper()
	key := impl.FinishKey(psk)
	if want := finishKeyOf(psk); !bytes.Equal(key, want) || impl.PskOk(psk) != pskIsRight(psk) {
		t.Errorf("FinishKey of %x is %x, not %x, and PskOk of it %v", psk, key, want, impl.PskOk(psk))
	}
	return key
}

func mustRootKeyAsTold(t *testing.T, psk []byte, cn []byte, sn []byte) []byte {
	t.Helper()
	key := impl.RootKey(psk, cn, sn)
	if want := rootKeyOf(psk, cn, sn); !bytes.Equal(key, want) {
		t.Errorf("RootKey of %x, %x and %x is %x, not %x", psk, cn, sn, key, want)
	}
	return key
}

func mustFirstKeyAsTold(t *testing.T, root []byte) []byte {
	t.Helper()
	key := impl.FirstKey(root)
	if want := firstKeyOf(root); !bytes.Equal(key, want) {
		t.Errorf("FirstKey of %d bytes, %.80x, is %x, not %x", len(root), root, key, want)
	}
	return key
}

func mustEpochKeyAsTold(t *testing.T, psk []byte, cn []byte, sn []byte, n int) []byte {
	t.Helper()
	key := impl.EpochKey(psk, cn, sn, n)
	if want := epochKeyOf(psk, cn, sn, n); !bytes.Equal(key, want) {
		t.Errorf("EpochKey of %x, %x, %x and %d is %x, not %x", psk, cn, sn, n, key, want)
	}
	return key
}

// mustHaveNoKeys: for no epoch either, though nothing leads to something.
func mustHaveNoKeys(t *testing.T, psk []byte, cn []byte, sn []byte) {
	t.Helper()
	if key := mustRootKeyAsTold(t, psk, cn, sn); len(key) != 0 {
		t.Errorf("RootKey of %x, %x and %x is %x", psk, cn, sn, key)
	}
	for _, n := range []int{-1, 0, 1, 2, 64, 65} {
		if key := mustEpochKeyAsTold(t, psk, cn, sn, n); len(key) != 0 {
			t.Errorf("EpochKey of %x, %x, %x and %d is %x", psk, cn, sn, n, key)
		}
	}
}

// mustProveAsTold: and the proof is the Tag of what ProofBody lays.
func mustProveAsTold(t *testing.T, f finishing) []byte {
	t.Helper()
	body := impl.ProofBody(f.id, f.cn, f.sn, f.tick, f.cookie)
	if want := proofBodyOf(f); !bytes.Equal(body, want) {
		t.Errorf("ProofBody of %v is %x, not %x", f, body, want)
	}
	proof := impl.Proof(f.psk, f.id, f.cn, f.sn, f.tick, f.cookie)
	if want := proofOf(f); !bytes.Equal(proof, want) {
		t.Errorf("Proof of %v is %x, not %x", f, proof, want)
	}
	if len(proof) > 0 && !bytes.Equal(proof, impl.Tag(impl.FinishKey(f.psk), body)) {
		t.Errorf("Proof of %v is %x: not the Tag of %x", f, proof, body)
	}
	return proof
}

func mustNotProve(t *testing.T, f finishing) {
	t.Helper()
	if proof := mustProveAsTold(t, f); len(proof) != 0 {
		t.Errorf("Proof of %v is %x", f, proof)
	}
}

func mustFinishAsTold(t *testing.T, psk []byte, id int, f impl.Frame) (impl.Frame, bool) {
	t.Helper()
	got, ok := impl.FinishOf(psk, id, f)
	if want, may := finishedOf(psk, id, f); ok != may || !sameFrames(got, want) {
		t.Errorf("FinishOf of %x, %d and %v is %v, %v, not %v, %v", psk, id, f, got, ok, want, may)
	}
	return got, ok
}

// mustFinish: and the proof of it is right.
func mustFinish(t *testing.T, f finishing) impl.Frame {
	t.Helper()
	got, ok := mustFinishAsTold(t, f.psk, f.id, f.given())
	if !ok || !impl.FrameOk(got) {
		t.Errorf("what finishes %v is %v, %v", f, got, ok)
	}
	mustBeProven(t, f.psk, got, true)
	return got
}

func mustNotFinish(t *testing.T, psk []byte, id int, f impl.Frame) {
	t.Helper()
	if got, ok := mustFinishAsTold(t, psk, id, f); ok || !sameFrames(got, impl.Frame{}) {
		t.Errorf("FinishOf of %x, %d and %v is %v, %v", psk, id, f, got, ok)
	}
}

// mustBeProven: or not, as the chapter has it, too.
func mustBeProven(t *testing.T, psk []byte, f impl.Frame, want bool) {
	t.Helper()
	if got, told := impl.ProofOk(psk, f), proofIsRight(psk, f); got != want || told != want {
		t.Errorf("ProofOk of %x and %v is %v, not %v (and is told to be %v)", psk, f, got, want, told)
	}
}

func mustBeProvenAsTold(t *testing.T, psk []byte, f impl.Frame) {
	t.Helper()
	mustBeProven(t, psk, f, proofIsRight(psk, f))
}

func edgesOfPsk() map[int]bool {
	return map[int]bool{0: false, 1: true, 2: true, 16: true, 31: true, 32: true, 33: false, 34: false, 64: false, 65: false, 256: false, 288: false, impl.MaxSha: false, impl.MaxSha + 1: false}
}

func edgesOfChain() map[int]bool {
	return map[int]bool{-2: false, -1: false, 0: true, 1: true, 2: true, 63: true, 64: true, 65: false, 66: false, 128: false, 256: false, 1 << 32: false, 1<<32 + 1: false, -(1 << 32): false, math.MaxInt: false, math.MaxInt - 1: false, math.MinInt: false, math.MinInt + 1: false}
}

func TestLimitsOfProofs(t *testing.T) {
	if impl.MaxChain != mostEpochsOfAChain || impl.MaxTime != lastTick || impl.MaxId != 9 || impl.KeyLen != sizeOfKey || impl.TagLen != sizeOfTag || impl.NonceLen != sizeOfNonce {
		t.Error(impl.MaxChain, impl.MaxTime, impl.MaxId, impl.KeyLen, impl.TagLen, impl.NonceLen)
	}
}

// knownFinishings: with the keys and the proof that another program made of them.
func knownFinishings() map[string]finishing {
	noughts, full := make([]byte, 32), bytes.Repeat([]byte{255}, 32)
	return map[string]finishing{
		"c34d98e57e3af8865d611fee695e4df765f86f1a16337e2f34359d5643d4fbb8" +
			" ac8560a6412ffc2b00ba686bbdf622b4370fb628eae4c4b05dd22bd7eb0e0027" +
			" f5ca40376dcc48144d097e03f4053c86a4d15e80d6d735a9b86553940186666d" +
			" f97487ef3dd9efe973878094747fe02253df92d42c3937988a8fd0cf1792604e" +
			" 1ea35f1c0d962cad014d048c2df95984d6391aabe4c0512f3c4271a29088b11e" +
			" 66027477656c76652062797465736f74686572207477656c76650000012c7369787465656e2062797465732e2e2e" +
			" 925a4f505a19c546a549dcb4830a6b58": {[]byte("word"), 2, []byte("twelve bytes"), []byte("other twelve"), 300, []byte("sixteen bytes...")},
		"3cd6e4b3eb4506249aec93a7a5c838950422b5708dedc55e568c4819ba3ec1fd" +
			" 6620b31f2924b8c01547745f41825d322336f83ebb13d723678789d554d8a3ef" +
			" 16d53fd36b9b0caa4126c40f2cf1352c53285dd3d5095bf3d4410acd4de1c322" +
			" 80398967b5a34f2c1dc5c6cec26fdcdd2e462b40d43d35a2c66823f63d33c222" +
			" 858662b91e1f4025fda08872924f13f98c17278dcc6890048fd37716ff568185" +
			" 66010000000000000000000000000000000000000000000000000000000000000000000000000000000000000000" +
			" a4c47a41ed18a27da5ff00e22d48b2c8": {noughts[:1], 1, noughts[:12], noughts[:12], 0, noughts[:16]},
		"5bfedc413ef65b496d7c9ac4aaad9550afcc0860686e9039a22b57c81cccd571" +
			" 3765d5613b897b27d1da58c02e7da4fc113cb4909eb13c3db424d612b2050eb8" +
			" cdd3d404f43e564a6dc274124756065293178eed16b9b801d15b299078b34757" +
			" 55893b42fa294f78b4bf325ff056abf9e92035b7518b0fb0803b0d3562666f7e" +
			" 0d23565d88cc930f4b94e8afee613d4c5309da789554dcd06122c433cb025856" +
			" 6609ffffffffffffffffffffffffffffffffffffffffffffffff000f4240ffffffffffffffffffffffffffffffff" +
			" b08eb4abd80c89c6ba76dc865c07936a": {full, 9, full[:12], full[:12], lastTick, full[:16]},
		"1e02db9b3b17d57eecb2a0d8bc23ea3863b398ccee7ec3a73db2ef895c482444" +
			" f8e1b1efb5a9997063e28c67f558249afdf8db34e1b4a1a3244ed42fc6aefaaf" +
			" 344c271556579c2bb0a2f855a686f316b272789dc7e5f9cccfc3d3874e8ba0c8" +
			" a1f7f3ed1470203a17f412f9c120f42017b4d29223aca40b4c6ec08476e679d0" +
			" b5ca0d55f7dfa73b51a072a4c4e27b98bcf5129575e733b13e31e23af675fa9a" +
			" 66076465666768696a6b6c6d6e6f000102030405060708090a0b000a0b0cc8c9cacbcccdcecfd0d1d2d3d4d5d6d7" +
			" ef62a08c25e726f6633a983a2f6b5b2f": {counted(0, 31), 7, counted(100, 12), counted(0, 12), 0x0a0b0c, counted(200, 16)},
		"1e02db9b3b17d57eecb2a0d8bc23ea3863b398ccee7ec3a73db2ef895c482444" +
			" 046823b4b7ab72e0c09814dee05b608b9b8edcbf410a2341660eaa5ba2b4a7b3" +
			" 2504761bda5b5e6fb4b70085b2112fb0e46de78f4c9d13401c9ee5c5f4624252" +
			" 32df37df55edccf666e0a532412a2ed14ec0371de3a6b1c03319777b46211eab" +
			" 46f8f567d549ec3a1b4a402ab4a78b0b9a168e263e62053a5c9772a19dbef97d" +
			" 6607000102030405060708090a0b6465666768696a6b6c6d6e6f000a0b0cc8c9cacbcccdcecfd0d1d2d3d4d5d6d7" +
			" 6cffa620cbf73e9ed7626ff8045abc2c": {counted(0, 31), 7, counted(0, 12), counted(100, 12), 0x0a0b0c, counted(200, 16)},
	}
}

func TestKnownKeysAndProofs(t *testing.T) {
	for want, f := range knownFinishings() {
		root := impl.RootKey(f.psk, f.cn, f.sn)
		got := []string{}
		for _, b := range [][]byte{
			impl.FinishKey(f.psk), root, impl.FirstKey(root), impl.EpochKey(f.psk, f.cn, f.sn, 1), impl.EpochKey(f.psk, f.cn, f.sn, 64),
			impl.ProofBody(f.id, f.cn, f.sn, f.tick, f.cookie), impl.Proof(f.psk, f.id, f.cn, f.sn, f.tick, f.cookie),
		} {
			got = append(got, hex.EncodeToString(b))
		}
		if all := strings.Join(got, " "); all != want {
			t.Errorf("of %v are made %s, not %s", f, all, want)
		}
		mustFinish(t, f)
	}
}

// What the keys are made of, by the program's own Extract, Derive and Chain, in the chapter's order.
func TestWhatKeysAreMadeOf(t *testing.T) {
	for _, f := range finishings() {
		key, root := mustFinishKeyAsTold(t, f.psk), mustRootKeyAsTold(t, f.psk, f.cn, f.sn)
		if !bytes.Equal(key, impl.Derive(impl.Extract([]byte("roam"), f.psk), "finish")) {
			t.Errorf("FinishKey of %x is %x", f.psk, key)
		}
		if !bytes.Equal(root, impl.Extract(slices.Concat(f.cn, f.sn), f.psk)) {
			t.Errorf("RootKey of %v is %x", f, root)
		}
		first := mustFirstKeyAsTold(t, root)
		if !bytes.Equal(first, impl.Derive(root, "epoch")) {
			t.Errorf("FirstKey of %x is %x", root, first)
		}
		for _, n := range []int{0, 1, 2, 64} {
			if got := mustEpochKeyAsTold(t, f.psk, f.cn, f.sn, n); !bytes.Equal(got, impl.Chain(first, n)) {
				t.Errorf("EpochKey of %v and %d is %x", f, n, got)
			}
		}
	}
}

// P12, the second half: from the first key on, each is what one turn of the chain makes of the one ahead.
func TestEachEpochsKeyIsWhatTheOneAheadLeadsTo(t *testing.T) {
	for _, psk := range somePsks() {
		for _, cn := range [][]byte{counted(10, 12), make([]byte, 12)} {
			sn := counted(50, 12)
			ahead := impl.FirstKey(impl.RootKey(psk, cn, sn))
			met := map[string]int{}
			for n := range mostEpochsOfAChain + 1 {
				key := mustEpochKeyAsTold(t, psk, cn, sn, n)
				if n > 0 {
					ahead = impl.Chain(ahead, 1)
				}
				if len(key) != sizeOfKey || !bytes.Equal(key, ahead) {
					t.Errorf("the key of the epoch %d of %x is %x, not %x", n, psk, key, ahead)
				}
				met[string(key)]++
			}
			if len(met) != mostEpochsOfAChain+1 {
				t.Errorf("of %d epochs there are %d keys", mostEpochsOfAChain+1, len(met))
			}
		}
	}
}

func TestEpochsOfKeysAtTheirEdges(t *testing.T) {
	f := someFinishing()
	for n, may := range edgesOfChain() {
		key := mustEpochKeyAsTold(t, f.psk, f.cn, f.sn, n)
		if (len(key) == sizeOfKey) != may || !may && len(key) != 0 {
			t.Errorf("the key of the epoch %d is %x", n, key)
		}
		for size, right := range edgesOfPsk() {
			if key := mustEpochKeyAsTold(t, counted(1, size), f.cn, f.sn, n); (len(key) > 0) != (may && right) {
				t.Errorf("of a word of %d bytes the key of the epoch %d is %x", size, n, key)
			}
		}
	}
	for _, n := range numbers() {
		mustEpochKeyAsTold(t, f.psk, f.cn, f.sn, n)
	}
}

func TestWordsThatAreSharedAtTheirEdges(t *testing.T) {
	f := someFinishing()
	for n, may := range edgesOfPsk() {
		for _, psk := range [][]byte{counted(1, n), make([]byte, n), bytes.Repeat([]byte{255}, n)} {
			if impl.PskOk(psk) != may {
				t.Errorf("PskOk of %d bytes is %v", n, !may)
			}
			key := mustFinishKeyAsTold(t, roomy(psk...))
			if (len(key) == sizeOfKey) != may || !may && len(key) != 0 {
				t.Errorf("FinishKey of %d bytes is %x", n, key)
			}
			f.psk = psk
			if may {
				mustFinish(t, f)
				mustRootKeyAsTold(t, psk, f.cn, f.sn)
				continue
			}
			mustHaveNoKeys(t, psk, f.cn, f.sn)
			mustNotProve(t, f)
			mustNotFinish(t, psk, f.id, f.given())
		}
	}
	for n := range 100 {
		mustFinishKeyAsTold(t, counted(1, n))
		mustRootKeyAsTold(t, counted(1, n), f.cn, f.sn)
	}
}

// The proof that would be right if a word of this size were is not.
func TestProofsOfWordsThatAreNotRight(t *testing.T) {
	f := someFinishing()
	body := proofBodyOf(f)
	for _, n := range []int{0, 33, 64, 65} {
		psk := counted(1, n)
		would := libraryKey(hkdf.Key(sha256.New, psk, []byte("roam"), "finish", sizeOfKey))
		for _, proof := range [][]byte{hmacOf(would, body), hmacOf(nil, body), hmacOf(would, nil), hmacOf(nil, nil), make([]byte, 16)} {
			mustBeProven(t, psk, f.finish(proof[:sizeOfTag]), false)
		}
		mustBeProven(t, psk, f.finish(nil), false)
	}
}

// Bytes 0 behind a word count, though behind the key of an Hmac they would not.
func TestWordsWithNoughtsBehindThem(t *testing.T) {
	f := someFinishing()
	f.psk = []byte("word")
	was, root := mustFinish(t, f), mustRootKeyAsTold(t, f.psk, f.cn, f.sn)
	for n := 5; n <= 33; n++ {
		psk := withNoughts(f.psk, n)
		mustBeProven(t, psk, was, false)
		if bytes.Equal(mustRootKeyAsTold(t, psk, f.cn, f.sn), root) {
			t.Errorf("with %d noughts behind it the word has the same root", n-4)
		}
	}
}

func TestRootsAtTheirEdges(t *testing.T) {
	for n, may := range edgesOfKey() {
		for _, root := range [][]byte{counted(1, n), make([]byte, n), bytes.Repeat([]byte{255}, n)} {
			first := mustFirstKeyAsTold(t, roomy(root...))
			if (len(first) == sizeOfKey) != may || !may && len(first) != 0 {
				t.Errorf("FirstKey of %d bytes is %x", n, first)
			}
		}
	}
	mustFirstKeyAsTold(t, nil)
	root := counted(1, 32)
	was := mustFirstKeyAsTold(t, root)
	for i := range root {
		for bit := range 8 {
			root[i] ^= 1 << bit
			if bytes.Equal(mustFirstKeyAsTold(t, root), was) {
				t.Errorf("the bit %d of the byte %d does not count", bit, i)
			}
			root[i] ^= 1 << bit
		}
	}
}

func TestNoncesOfKeysAtTheirEdges(t *testing.T) {
	f := someFinishing()
	for cn, mayCn := range edgesOfNonce() {
		for sn, maySn := range edgesOfNonce() {
			f.cn, f.sn = roomy(counted(10, cn)...), roomy(counted(50, sn)...)
			if !mayCn || !maySn {
				mustHaveNoKeys(t, f.psk, f.cn, f.sn)
				mustNotProve(t, f)
				mustNotFinish(t, f.psk, f.id, f.given())
				continue
			}
			if len(mustRootKeyAsTold(t, f.psk, f.cn, f.sn)) != sizeOfKey {
				t.Errorf("RootKey of %x and %x is nothing", f.cn, f.sn)
			}
			mustFinish(t, f)
		}
	}
	// As many bytes in all, but not as many each: the place between the two counts.
	whole := counted(10, 24)
	for n := range 25 {
		mustRootKeyAsTold(t, f.psk, whole[:n], whole[n:])
		mustProveAsTold(t, finishing{f.psk, f.id, whole[:n], whole[n:], f.tick, f.cookie})
	}
}

// Each bit of what a root is made of counts, and which nonce is whose.
func TestRootsHangOnEachBit(t *testing.T) {
	f := someFinishing()
	was := mustRootKeyAsTold(t, f.psk, f.cn, f.sn)
	for _, list := range [][]byte{f.psk, f.cn, f.sn} {
		for i := range list {
			for bit := range 8 {
				list[i] ^= 1 << bit
				if bytes.Equal(mustRootKeyAsTold(t, f.psk, f.cn, f.sn), was) {
					t.Errorf("the bit %d of the byte %d does not count", bit, i)
				}
				list[i] ^= 1 << bit
			}
		}
	}
	if bytes.Equal(mustRootKeyAsTold(t, f.psk, f.sn, f.cn), was) {
		t.Error("it does not count which nonce is whose")
	}
}

func cookieLengths() []int {
	return []int{0, 15, 16, 17, 32}
}

// Each part at its edges beside each other one at its own.
func TestProofsAtTheirEdges(t *testing.T) {
	psk, asked, proven := []byte("word"), 0, 0
	for id, mayId := range edgesOfId() {
		for tick, mayTick := range edgesOfTime() {
			for _, cn := range nonceLengths() {
				for _, sn := range nonceLengths() {
					for _, cookie := range cookieLengths() {
						f := finishing{psk, id, counted(10, cn), counted(50, sn), tick, counted(90, cookie)}
						may := mayId && mayTick && cn == 12 && sn == 12 && cookie == 16
						body, proof := impl.ProofBody(f.id, f.cn, f.sn, f.tick, f.cookie), impl.Proof(f.psk, f.id, f.cn, f.sn, f.tick, f.cookie)
						if (len(body) == sizeOfProofBody) != may || (len(proof) == sizeOfTag) != may || !may && len(body)+len(proof) != 0 {
							t.Errorf("ProofBody of %v is %x, Proof %x", f, body, proof)
						}
						if may {
							mustFinish(t, f)
							proven++
						} else if _, ok := impl.FinishOf(f.psk, f.id, f.given()); ok {
							t.Errorf("%v is finished", f)
						}
						asked++
					}
				}
			}
		}
	}
	if want := 4 * 7; proven != want || asked < 20000 {
		t.Errorf("%d of %d were proven, not %d", proven, asked, want)
	}
}

func TestWhatProofBodyLays(t *testing.T) {
	met, unlike := map[string]int{}, map[string]int{}
	for _, f := range finishings() {
		b := impl.ProofBody(f.id, f.cn, f.sn, f.tick, f.cookie)
		if len(b) != sizeOfProofBody {
			t.Fatalf("ProofBody of %v has %d bytes", f, len(b))
		}
		if b[0] != 0x66 || int(b[1]) != f.id || !bytes.Equal(b[2:14], f.cn) || !bytes.Equal(b[14:26], f.sn) || !bytes.Equal(b[26:30], impl.PutN(nil, f.tick, 4)) || !bytes.Equal(b[30:], f.cookie) {
			t.Errorf("ProofBody of %v is %x", f, b)
		}
		met[string(b)]++
		unlike[string(mustProveAsTold(t, f))]++
	}
	if len(met) != len(finishings())/len(somePsks()) || len(unlike) != len(finishings()) {
		t.Errorf("of %d there are %d unlike bodies and %d unlike proofs", len(finishings()), len(met), len(unlike))
	}
}

// P12, the first half: the id that was given, the cookie's own parts, and a proof that is right with the same word alone.
func TestWhatFinishesACookieHasAProofThatIsRight(t *testing.T) {
	for _, f := range finishings() {
		got := mustFinish(t, f)
		if got.Kind != impl.KFinish || got.Id != f.id || !bytes.Equal(got.Cn, f.cn) || !bytes.Equal(got.Sn, f.sn) || got.Tick != f.tick || !bytes.Equal(got.Cookie, f.cookie) {
			t.Errorf("what finishes %v is %v", f, got)
		}
		if !bytes.Equal(got.Proof, impl.Proof(f.psk, f.id, f.cn, f.sn, f.tick, f.cookie)) || got.Epoch != 0 || got.Seq != 0 || len(got.Body)+len(got.Tag) != 0 {
			t.Errorf("what finishes %v is %v", f, got)
		}
		for _, psk := range append(somePsks(), nil, counted(1, 33)) {
			mustBeProven(t, psk, got, bytes.Equal(psk, f.psk))
		}
	}
}

// P12: with any one byte of its proof turned, by each other value, it is not right.
func TestProofsWithAByteTurnedAreNotRight(t *testing.T) {
	for _, f := range []finishing{someFinishing(), {make([]byte, 1), 1, make([]byte, 12), make([]byte, 12), 0, make([]byte, 16)}} {
		got := mustFinish(t, f)
		for i := range got.Proof {
			for by := 1; by < 256; by++ {
				got.Proof[i] ^= byte(by)
				mustBeProven(t, f.psk, got, false)
				got.Proof[i] ^= byte(by)
			}
		}
		mustBeProven(t, f.psk, got, true)
	}
}

// Two bytes that are turned alike, or that change places, do not make up for each other.
func TestProofsWithTwoBytesTurnedAreNotRight(t *testing.T) {
	f := someFinishing()
	got := mustFinish(t, f)
	for i := range got.Proof {
		for k := range i {
			got.Proof[i] ^= 255
			got.Proof[k] ^= 255
			mustBeProven(t, f.psk, got, false)
			got.Proof[i] ^= 255
			got.Proof[k] ^= 255
			got.Proof[i], got.Proof[k] = got.Proof[k], got.Proof[i]
			mustBeProvenAsTold(t, f.psk, got)
			got.Proof[i], got.Proof[k] = got.Proof[k], got.Proof[i]
		}
	}
	whole := hmacOf(finishKeyOf(f.psk), proofBodyOf(f))
	for n := range 33 {
		got.Proof = whole[:n]
		mustBeProven(t, f.psk, got, n == sizeOfTag)
		got.Proof = whole[32-n:]
		mustBeProven(t, f.psk, got, false)
	}
}

// P12: with another word, id, nonce, tick or cookie: each bit of each part counts.
func TestProofsHangOnEachBit(t *testing.T) {
	f := someFinishing()
	got := mustFinish(t, f)
	for _, list := range [][]byte{f.psk, got.Cn, got.Sn, got.Cookie} {
		for i := range list {
			for bit := range 8 {
				list[i] ^= 1 << bit
				mustBeProven(t, f.psk, got, false)
				list[i] ^= 1 << bit
			}
		}
	}
	for id := -1; id < 12; id++ {
		got.Id = id
		mustBeProven(t, f.psk, got, id == f.id)
	}
	got.Id = f.id
	for bit := range 63 {
		got.Tick = f.tick ^ 1<<bit
		mustBeProven(t, f.psk, got, false)
	}
	got.Tick = f.tick
	got.Cn, got.Sn = got.Sn, got.Cn
	mustBeProven(t, f.psk, got, false)
	got.Cn, got.Sn = got.Sn, got.Cn
	mustBeProven(t, f.psk, got, true)
}

// A proof is with the key to finish: not with the word itself, nor with one of the session's keys.
func TestProofsWithOtherKeysAreNotRight(t *testing.T) {
	f := someFinishing()
	root := rootKeyOf(f.psk, f.cn, f.sn)
	for _, key := range [][]byte{f.psk, root, firstKeyOf(root), epochKeyOf(f.psk, f.cn, f.sn, 1), hmacOf([]byte("roam"), f.psk), hmacOf(f.psk, []byte("roam")), nil} {
		mustBeProven(t, f.psk, f.finish(hmacOf(key, proofBodyOf(f))[:sizeOfTag]), false)
	}
	mustBeProven(t, f.psk, f.finish(hmacOf(finishKeyOf(f.psk), proofBodyOf(f))[:sizeOfTag]), true)
}

func TestTheZeroFrameIsNotFinished(t *testing.T) {
	for _, psk := range append(somePsks(), nil) {
		for id := range edgesOfId() {
			mustNotFinish(t, psk, id, impl.Frame{})
		}
		mustBeProven(t, psk, impl.Frame{}, false)
		for kind := -3; kind < 12; kind++ {
			mustNotFinish(t, psk, 1, impl.Frame{Kind: kind})
			mustBeProven(t, psk, impl.Frame{Kind: kind}, false)
		}
	}
	mustHaveNoKeys(t, nil, nil, nil)
	mustNotProve(t, finishing{})
	mustNotProve(t, finishing{psk: []byte("word")})
	mustNotProve(t, finishing{psk: []byte("word"), id: 1})
}

// A right frame of any other kind is no cookie, and none that finishes.
func TestFramesOfOtherKindsAreNotFinished(t *testing.T) {
	f := someFinishing()
	for _, right := range rightFrames() {
		got, ok := mustFinishAsTold(t, f.psk, 3, right)
		if ok != (right.Kind == impl.KCookie) {
			t.Errorf("FinishOf of %v is %v, %v", right, got, ok)
		}
		mustBeProven(t, f.psk, right, false)
		if right.Kind == impl.KFinish {
			right.Proof = proofOf(finishingOf(f.psk, right))
			mustBeProven(t, f.psk, right, true)
			mustNotFinish(t, f.psk, right.Id, right)
		}
	}
	given, finish := f.given(), mustFinish(t, f)
	for kind := -3; kind < 300; kind++ {
		given.Kind, finish.Kind = kind, kind
		if _, ok := mustFinishAsTold(t, f.psk, f.id, given); ok != (kind == impl.KCookie) {
			t.Errorf("FinishOf of the kind %d is %v", kind, ok)
		}
		mustNotFinish(t, f.psk, f.id, finish)
		mustBeProven(t, f.psk, finish, kind == impl.KFinish)
		mustBeProven(t, f.psk, given, false)
	}
	for _, kind := range wrongKinds() {
		given.Kind, finish.Kind = kind, kind
		mustNotFinish(t, f.psk, f.id, given)
		mustBeProven(t, f.psk, finish, false)
	}
}

// Each part past its limits, or one that the kind does not name.
func TestCookiesThatAreNotRightAreNotFinished(t *testing.T) {
	wrong := []impl.Frame{}
	for _, part := range frameParts {
		wrong = append(wrong, withWrongPart(frameForms[1], part)...)
	}
	if len(wrong) < 50 {
		t.Errorf("there are %d", len(wrong))
	}
	for _, f := range wrong {
		for _, psk := range [][]byte{[]byte("word"), nil, counted(1, 33)} {
			for _, id := range []int{0, 1, 9, 10} {
				mustNotFinish(t, psk, id, f)
			}
		}
	}
}

// Though the proof may be that of the parts that it is made of.
func TestFinishesThatAreNotRightAreNotProven(t *testing.T) {
	psk := []byte("word")
	wrong := finishesThatAreWrong()
	if len(wrong) < 50 {
		t.Errorf("there are %d", len(wrong))
	}
	for _, f := range wrong {
		mustBeProven(t, psk, f, false)
		for _, proof := range [][]byte{proofOf(finishingOf(psk, f)), hmacOf(finishKeyOf(psk), nil)[:sizeOfTag], hmacOf(nil, nil)[:sizeOfTag], make([]byte, 16), nil} {
			f.Proof = proof
			mustBeProvenAsTold(t, psk, f)
			mustBeProven(t, nil, f, false)
		}
	}
	for _, part := range frameParts {
		if frameForms[2].names(part) {
			continue
		}
		for _, f := range withWrongPart(frameForms[2], part) {
			f.Proof = proofOf(finishingOf(psk, f))
			if len(f.Proof) != sizeOfTag {
				t.Errorf("%v has no proof", f)
			}
			mustBeProven(t, psk, f, false)
		}
	}
}

// Two things that are wrong at once are as wrong as one.
func TestTwoThingsWrongAtOnce(t *testing.T) {
	right := someFinishing()
	asked := 0
	for _, psk := range [][]byte{right.psk, nil, counted(1, 33)} {
		for _, id := range []int{right.id, 0, 10} {
			for _, cn := range []int{12, 11, 13} {
				for _, sn := range []int{12, 11, 13} {
					for _, tick := range []int{right.tick, -1, lastTick + 1} {
						for _, cookie := range []int{16, 15, 17} {
							f := finishing{psk, id, counted(10, cn), counted(50, sn), tick, counted(90, cookie)}
							mustProveAsTold(t, f)
							_, ok := mustFinishAsTold(t, psk, id, f.given())
							if ok != (id == right.id && bytes.Equal(psk, right.psk) && cn == 12 && sn == 12 && tick == right.tick && cookie == 16) {
								t.Errorf("FinishOf of %v is %v", f, ok)
							}
							mustBeProven(t, psk, f.finish(hmacOf(finishKeyOf(right.psk), proofBodyOf(right))[:sizeOfTag]), ok)
							asked++
						}
					}
				}
			}
		}
	}
	if asked != 729 {
		t.Errorf("%d were asked", asked)
	}
}

func TestGreatestAndLeastNumbersOfProofs(t *testing.T) {
	f := someFinishing()
	proof := proofOf(f)
	for _, n := range numbers() {
		id, tick := f, f
		id.id, tick.tick = n, n
		for _, asked := range []finishing{id, tick} {
			mustProveAsTold(t, asked)
			mustFinishAsTold(t, asked.psk, asked.id, asked.given())
			mustBeProvenAsTold(t, asked.psk, asked.finish(proof))
		}
	}
	for _, n := range []int{math.MaxInt, math.MinInt} {
		for _, m := range []int{math.MaxInt, math.MinInt} {
			both := f
			both.id, both.tick = n, m
			mustNotProve(t, both)
			mustNotFinish(t, both.psk, both.id, both.given())
		}
	}
}

// A cookie that comes over the wire is finished, and what comes back is known again and proven.
func TestFinishesComeBackOfTheirBytes(t *testing.T) {
	j, psk := someJar(), []byte("word")
	for _, m := range mintings() {
		given, ok := impl.GetFrame(impl.PutFrame(impl.Frame{Kind: impl.KCookie, Cn: m.cn, Sn: m.sn, Tick: m.tick, Cookie: impl.Mint(j, m.a, m.id, m.cn, m.sn, m.tick)}))
		if !ok {
			t.Fatalf("what is given of %v is no frame", m)
		}
		f, ok := mustFinishAsTold(t, psk, m.id, given)
		back, read := impl.GetFrame(impl.PutFrame(f))
		if !ok || !read {
			t.Fatalf("what finishes %v is no frame", m)
		}
		mustJudge(t, j, m.tick, m.a, back, impl.CoGood)
		mustBeProven(t, psk, back, true)
		other := m.id%9 + 1
		f, ok = mustFinishAsTold(t, psk, other, given)
		if !ok {
			t.Fatalf("%d does not finish %v", other, m)
		}
		mustJudge(t, j, m.tick, m.a, f, impl.CoTag)
		mustBeProven(t, psk, f, true)
	}
}

// A keyCall is what the chapter's functions are asked for.
type keyCall struct {
	f      finishing
	root   []byte
	n      int
	frame  impl.Frame
	finish impl.Frame
}

// withRoom: the same, all its lists with spare room, and none of them shared.
func (c keyCall) withRoom() keyCall {
	for _, list := range c.lists() {
		*list = roomy(*list...)
	}
	return c
}

func (c *keyCall) lists() []*[]byte {
	l := []*[]byte{&c.f.psk, &c.f.cn, &c.f.sn, &c.f.cookie, &c.root}
	for _, part := range frameParts {
		if part.list != nil {
			l = append(l, part.list(&c.frame), part.list(&c.finish))
		}
	}
	return l
}

func (c keyCall) scribbleOver() {
	for _, list := range c.lists() {
		scribble(*list)
	}
}

func (c keyCall) mustBeUntouched(t *testing.T, what string, was keyCall) {
	t.Helper()
	lists := was.lists()
	for i, list := range c.lists() {
		mustBeUntouched(t, what, *list, *lists[i]...)
	}
}

// answers: all lists that are answered of a call.
func (c keyCall) answers() [][]byte {
	f := c.f
	l := [][]byte{
		impl.FinishKey(f.psk), impl.RootKey(f.psk, f.cn, f.sn), impl.FirstKey(c.root), impl.EpochKey(f.psk, f.cn, f.sn, c.n),
		impl.ProofBody(f.id, f.cn, f.sn, f.tick, f.cookie), impl.Proof(f.psk, f.id, f.cn, f.sn, f.tick, f.cookie),
	}
	got, _ := impl.FinishOf(f.psk, f.id, c.frame)
	impl.PskOk(f.psk)
	impl.ProofOk(f.psk, c.frame)
	impl.ProofOk(f.psk, c.finish)
	return append(l, listsOfFrame(got)...)
}

func (c keyCall) told() [][]byte {
	f := c.f
	l := [][]byte{
		finishKeyOf(f.psk), rootKeyOf(f.psk, f.cn, f.sn), firstKeyOf(c.root), epochKeyOf(f.psk, f.cn, f.sn, c.n), proofBodyOf(f), proofOf(f),
	}
	want, _ := finishedOf(f.psk, f.id, c.frame)
	return append(l, listsOfFrame(want)...)
}

func listsOfFrame(f impl.Frame) [][]byte {
	l := [][]byte{}
	for _, part := range frameParts {
		if part.list != nil {
			l = append(l, *part.list(&f))
		}
	}
	return l
}

// keyCalls: such as are answered, and some that are wrong in one thing, or in all.
func keyCalls() []keyCall {
	f := someFinishing()
	l := []keyCall{
		{},
		{finishing{counted(1, 33), 10, counted(1, 13), counted(1, 11), -1, counted(1, 17)}, counted(1, 33), 65, someFrame(frameForms[3], 41), someFrame(frameForms[3], 40)},
	}
	for _, psk := range []int{0, 1, 32, 33} {
		for _, cn := range []int{11, 12} {
			for _, cookie := range []int{16, 17} {
				for _, n := range []int{-1, 0, 1, 2} {
					asked := finishing{counted(7, psk), 3, counted(10, cn), counted(50, 12), 300, counted(90, cookie)}
					l = append(l, keyCall{asked, counted(1, 31+n), n, asked.given(), asked.finish(proofOf(asked))})
				}
			}
		}
	}
	for _, form := range frameForms {
		l = append(l, keyCall{f, counted(1, 32), 1, someFrame(form, form.mostBody), someFrame(form, form.mostBody)})
	}
	return append(l, keyCall{f, counted(1, 32), 0, f.finish(proofOf(f)), f.given()})
}

func TestKeysAndProofsWriteIntoNoArgumentAndShareNone(t *testing.T) {
	finished, proven := 0, 0
	for _, was := range keyCalls() {
		c := mustWriteIntoNone(t, was)
		_, ok := mustFinishAsTold(t, c.f.psk, c.f.id, c.frame)
		finished += countOf(ok)
		mustBeProvenAsTold(t, c.f.psk, c.finish)
		proven += countOf(impl.ProofOk(c.f.psk, c.finish))
		c.mustBeUntouched(t, "finished and proven", was)
	}
	if finished < 4 || proven < 4 {
		t.Errorf("%d are finished, %d proven", finished, proven)
	}
}

func TestListsOfKeysShareNone(t *testing.T) {
	for _, was := range keyCalls() {
		mustShareNone(t, was)
	}
}

// Lists that are one, and lists that stand one in the other's spare room, are like any others; what is answered has each on its own.
func TestKeysOfListsThatShareMemory(t *testing.T) {
	whole := pattern(200)
	for _, f := range []finishing{
		{whole[:32], 1, whole[:12], whole[:12], 5, whole[:16]},
		{whole[:12], 1, whole[:12], whole[12:24], 5, whole[24:40]},
		{whole[40:41], 1, whole[30:42], whole[25:37], 5, whole[20:36]},
		{whole[16:40], 1, whole[20:32], whole[8:20], 5, whole[32:48]},
	} {
		mustFinishKeyAsTold(t, f.psk)
		mustRootKeyAsTold(t, f.psk, f.cn, f.sn)
		mustEpochKeyAsTold(t, f.psk, f.cn, f.sn, 3)
		mustProveAsTold(t, f)
		got := mustFinish(t, f)
		want := listsOfFrame(f.finish(proofOf(f)))
		for i, list := range listsOfFrame(got) {
			if !bytes.Equal(list, want[i]) {
				t.Errorf("the list %d is %x now, not %x", i, list, want[i])
			}
			scribble(list)
		}
		bent := f.finish(whole[16:32])
		mustBeProven(t, f.psk, bent, false)
	}
	mustFirstKeyAsTold(t, whole[:32])
	if !bytes.Equal(whole, pattern(200)) {
		t.Error("they were written into")
	}
}

// What was asked, finished, proven or refused ahead leaves nothing behind: a proof is right as often as it comes.
func TestKeysAndProofsKeepNothing(t *testing.T) {
	f := someFinishing()
	proof := proofOf(f)
	for range 3 {
		mustFinish(t, f)
		mustBeProven(t, f.psk, f.finish(proof), true)
		mustBeProven(t, []byte("else"), f.finish(proof), false)
		mustNotFinish(t, nil, f.id, f.given())
		mustNotFinish(t, f.psk, 10, f.given())
		mustNotProve(t, finishing{})
		mustHaveNoKeys(t, nil, f.cn, f.sn)
		scribble(mustFinishKeyAsTold(t, f.psk))
		scribble(mustRootKeyAsTold(t, f.psk, f.cn, f.sn))
		scribble(mustFirstKeyAsTold(t, counted(1, 32)))
		scribble(mustEpochKeyAsTold(t, f.psk, f.cn, f.sn, 2))
		scribble(mustEpochKeyAsTold(t, f.psk, f.cn, f.sn, 0))
		scribble(mustProveAsTold(t, f))
	}
}
