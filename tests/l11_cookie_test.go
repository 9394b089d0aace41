package tests

import (
	"bytes"
	"encoding/binary"
	"encoding/hex"
	"math"
	"math/big"
	"slices"
	"testing"

	"loop.example/g00478/impl"
)

const (
	lifeOfACookie = 10
	lastTick      = 1000000
	sizeOfBody    = 36
)

// A minting is what MintBody is asked for.
type minting struct {
	a      impl.Addr
	id     int
	cn, sn []byte
	tick   int
}

// The reading of the chapter, the library's way, for whatever comes.

func jarOf(roll []byte) impl.Jar {
	if len(roll) != sizeOfNonce {
		return impl.Jar{}
	}
	return impl.Jar{Secret: hmacOf(roll, []byte("jar\x01"))}
}

func jarIsRight(j impl.Jar) bool {
	return len(j.Secret) == sizeOfKey
}

func addrIsRight(a impl.Addr) bool {
	return a.Host >= 0 && a.Host <= math.MaxUint32 && a.Port >= 0 && a.Port <= math.MaxUint16
}

func timeIsRight(n int) bool {
	return n >= 0 && n < lastTick+1
}

func mintingIsRight(m minting) bool {
	return addrIsRight(m.a) && m.id > 0 && m.id < 10 && len(m.cn) == sizeOfNonce && len(m.sn) == sizeOfNonce && timeIsRight(m.tick)
}

func mintBodyOf(m minting) []byte {
	if !mintingIsRight(m) {
		return nil
	}
	tick := binary.BigEndian.AppendUint32(nil, uint32(m.tick))
	return slices.Concat([]byte{'c'}, addrBytesOf(m.a), []byte{byte(m.id)}, m.cn, m.sn, tick)
}

func mintOf(j impl.Jar, m minting) []byte {
	if !jarIsRight(j) || !mintingIsRight(m) {
		return nil
	}
	return hmacOf(j.Secret, mintBodyOf(m))[:sizeOfTag]
}

// freshOf counts with numbers that have no greatest one.
func freshOf(now int, tick int) bool {
	age := new(big.Int).Sub(big.NewInt(int64(now)), big.NewInt(int64(tick)))
	return timeIsRight(now) && timeIsRight(tick) && age.Sign() >= 0 && age.Cmp(big.NewInt(lifeOfACookie)) <= 0
}

func judgeOf(j impl.Jar, now int, a impl.Addr, f impl.Frame) int {
	if !jarIsRight(j) || !timeIsRight(now) || !addrIsRight(a) || f.Kind != 3 || !frameIsRight(f) {
		return impl.CoForm
	}
	if !freshOf(now, f.Tick) {
		return impl.CoStale
	}
	if !bytes.Equal(f.Cookie, mintOf(j, minting{a, f.Id, f.Cn, f.Sn, f.Tick})) {
		return impl.CoTag
	}
	return impl.CoGood
}

func sameJars(a impl.Jar, b impl.Jar) bool {
	return bytes.Equal(a.Secret, b.Secret)
}

func someJar() impl.Jar {
	return jarOf([]byte("what is roll"))
}

func someMinting() minting {
	return minting{addr(0x0a000003, 7003), 2, counted(10, 12), counted(50, 12), 300}
}

// finishOf: what who was given this cookie finishes with; nobody but who has the word beforehand can tell whether the proof is right.
func finishOf(m minting, cookie []byte) impl.Frame {
	return impl.Frame{Kind: impl.KFinish, Id: m.id, Cn: m.cn, Sn: m.sn, Tick: m.tick, Cookie: cookie, Proof: counted(130, 16)}
}

func mustJarAsTold(t *testing.T, roll []byte) impl.Jar {
	t.Helper()
	j := impl.JarNew(roll)
	if want := jarOf(roll); !sameJars(j, want) || impl.JarOk(j) != jarIsRight(want) {
		t.Errorf("JarNew of %x is %x, not %x", roll, j.Secret, want.Secret)
	}
	return j
}

// mustMintAsTold: and the cookie is the Tag of what MintBody lays.
func mustMintAsTold(t *testing.T, j impl.Jar, m minting) []byte {
	t.Helper()
	body := impl.MintBody(m.a, m.id, m.cn, m.sn, m.tick)
	if want := mintBodyOf(m); !bytes.Equal(body, want) {
		t.Errorf("MintBody of %v is %x, not %x", m, body, want)
	}
	cookie := impl.Mint(j, m.a, m.id, m.cn, m.sn, m.tick)
	if want := mintOf(j, m); !bytes.Equal(cookie, want) {
		t.Errorf("Mint of %x and %v is %x, not %x", j.Secret, m, cookie, want)
	}
	if len(cookie) > 0 && !bytes.Equal(cookie, impl.Tag(j.Secret, body)) {
		t.Errorf("Mint of %x and %v is %x: not the Tag of %x", j.Secret, m, cookie, body)
	}
	return cookie
}

func mustNotMint(t *testing.T, j impl.Jar, m minting) {
	t.Helper()
	if cookie := mustMintAsTold(t, j, m); len(cookie) != 0 {
		t.Errorf("Mint of %x and %v is %x", j.Secret, m, cookie)
	}
}

func mustFreshAsTold(t *testing.T, now int, tick int) {
	t.Helper()
	if got := impl.Fresh(now, tick); got != freshOf(now, tick) {
		t.Errorf("Fresh of %d and %d is %v", now, tick, got)
	}
}

// mustJudge: with this code, which is what the chapter has, too.
func mustJudge(t *testing.T, j impl.Jar, now int, a impl.Addr, f impl.Frame, code int) {
	t.Helper()
	if got, told := impl.Judge(j, now, a, f), judgeOf(j, now, a, f); got != code || told != code {
		t.Errorf("Judge of %x, now %d, %v and %v is %d, not %d (and is told to be %d)", j.Secret, now, a, f, got, code, told)
	}
}

func mustJudgeAsTold(t *testing.T, j impl.Jar, now int, a impl.Addr, f impl.Frame) {
	t.Helper()
	mustJudge(t, j, now, a, f, judgeOf(j, now, a, f))
}

func TestLimitOfCookies(t *testing.T) {
	if impl.CookieLife != lifeOfACookie || impl.MaxTime != lastTick || impl.MaxId != 9 || impl.KeyLen != sizeOfKey || impl.TagLen != sizeOfTag || impl.NonceLen != sizeOfNonce {
		t.Error(impl.CookieLife, impl.MaxTime, impl.MaxId, impl.KeyLen, impl.TagLen, impl.NonceLen)
	}
}

func TestKnownJars(t *testing.T) {
	for roll, want := range map[string]string{
		"twelve bytes":                        "a88f14611c0f33a8e9bd954d51df29d05d1c9027eabbd95f8e2abd148c483e5e",
		string(make([]byte, 12)):              "3c39765a482802087c37ee7f45983d00b0d1112a1307cacc6ccd248441c08274",
		string(bytes.Repeat([]byte{255}, 12)): "cce0ddd96609647486fdbc8b43128c482a78aefaab3bec33cf48d76d9939242d",
		string(counted(0, 12)):                "e718ea4cbacb54cda9516e655134c10565ea871e28ed615ebb1fdd4432a1ba88",
	} {
		j := mustJarAsTold(t, []byte(roll))
		if got := hex.EncodeToString(j.Secret); got != want || !impl.JarOk(j) {
			t.Errorf("JarNew of %x is %s, not %s", roll, got, want)
		}
		if !bytes.Equal(j.Secret, impl.Derive([]byte(roll), "jar")) {
			t.Errorf("JarNew of %x is not Derive of it", roll)
		}
	}
}

func TestKnownCookies(t *testing.T) {
	twelve, noughts, full := []byte("twelve bytes"), make([]byte, 12), bytes.Repeat([]byte{255}, 12)
	for _, c := range []struct {
		roll       []byte
		m          minting
		body, want string
	}{
		{twelve, minting{addr(0x0a000003, 7003), 2, twelve, twelve, 300}, "630a0000031b5b027477656c76652062797465737477656c76652062797465730000012c", "c35ff543528a653a141ef83d4233ed55"},
		{noughts, minting{addr(0, 0), 1, noughts, noughts, 0}, "630000000000000100000000000000000000000000000000000000000000000000000000", "c26247e5b34452261e85d0249bcc51ed"},
		{full, minting{addr(0xffffffff, 65535), 9, full, full, lastTick}, "63ffffffffffff09ffffffffffffffffffffffffffffffffffffffffffffffff000f4240", "64181cecb5e4c86604e7a4f75593c2ea"},
		{counted(0, 12), minting{addr(0x01020304, 0x0506), 7, counted(0, 12), counted(100, 12), 0x0a0b0c}, "6301020304050607000102030405060708090a0b6465666768696a6b6c6d6e6f000a0b0c", "eb0a8d5b248853fdf21c2e56745951c0"},
		{counted(0, 12), minting{addr(0x0a000007, 7007), 1, counted(100, 12), counted(0, 12), lastTick - 1}, "630a0000071b5f016465666768696a6b6c6d6e6f000102030405060708090a0b000f423f", "00274b4d7b74b6cf49837a3f6baadafc"},
	} {
		j := impl.JarNew(c.roll)
		if got := hex.EncodeToString(impl.MintBody(c.m.a, c.m.id, c.m.cn, c.m.sn, c.m.tick)); got != c.body {
			t.Errorf("MintBody of %v is %s, not %s", c.m, got, c.body)
		}
		cookie := mustMintAsTold(t, j, c.m)
		if got := hex.EncodeToString(cookie); got != c.want {
			t.Errorf("Mint of %v is %s, not %s", c.m, got, c.want)
		}
		mustJudge(t, j, c.m.tick, c.m.a, finishOf(c.m, cookie), impl.CoGood)
	}
}

func TestJarsOfRollsAtTheirEdges(t *testing.T) {
	for n, may := range edgesOfNonce() {
		for _, roll := range [][]byte{counted(60, n), make([]byte, n), bytes.Repeat([]byte{255}, n)} {
			j := mustJarAsTold(t, roomy(roll...))
			if impl.JarOk(j) != may || (len(j.Secret) == sizeOfKey) != may || !may && len(j.Secret) != 0 {
				t.Errorf("JarNew of %d bytes is %x", n, j.Secret)
			}
		}
	}
	mustJarAsTold(t, nil)
	mustJarAsTold(t, pattern(impl.MaxSha+1))
}

func TestJarsHangOnEachByteOfTheRoll(t *testing.T) {
	roll := counted(60, 12)
	was := impl.JarNew(roll)
	for i := range roll {
		for bit := range 8 {
			roll[i] ^= 1 << bit
			if sameJars(mustJarAsTold(t, roll), was) {
				t.Errorf("the bit %d of the byte %d does not count", bit, i)
			}
			roll[i] ^= 1 << bit
		}
	}
}

func TestSecretsAtTheirEdges(t *testing.T) {
	m := someMinting()
	for n, may := range edgesOfKey() {
		j := impl.Jar{Secret: roomy(counted(1, n)...)}
		if impl.JarOk(j) != may {
			t.Errorf("JarOk of %d bytes is %v", n, !may)
		}
		cookie := mustMintAsTold(t, j, m)
		if may {
			mustJudge(t, j, m.tick, m.a, finishOf(m, cookie), impl.CoGood)
			continue
		}
		mustNotMint(t, j, m)
		for _, tag := range [][]byte{hmacOf(j.Secret, mintBodyOf(m))[:sizeOfTag], hmacOf(j.Secret, nil)[:sizeOfTag], make([]byte, sizeOfTag), {}} {
			mustJudge(t, j, m.tick, m.a, finishOf(m, tag), impl.CoForm)
		}
	}
}

// A secret that is as good as another key, with noughts behind it, is not right for it.
func TestSecretsWithNoughtsBehindThem(t *testing.T) {
	j, m := someJar(), someMinting()
	cookie := mustMintAsTold(t, j, m)
	long := impl.Jar{Secret: withNoughts(j.Secret, 33)}
	mustNotMint(t, long, m)
	mustJudge(t, long, m.tick, m.a, finishOf(m, cookie), impl.CoForm)
	mustJudge(t, impl.Jar{Secret: withNoughts(j.Secret[:31], 32)}, m.tick, m.a, finishOf(m, cookie), impl.CoTag)
	mustJudge(t, impl.Jar{Secret: make([]byte, 32)}, m.tick, m.a, finishOf(m, mintOf(impl.Jar{Secret: make([]byte, 32)}, m)), impl.CoGood)
}

func edgesOfId() map[int]bool {
	return map[int]bool{-1: false, 0: false, 1: true, 2: true, 8: true, 9: true, 10: false, 255: false, 256: false, 257: false, -255: false, 1<<32 + 1: false, math.MaxInt: false, math.MinInt: false, math.MinInt + 1: false}
}

func edgesOfTime() map[int]bool {
	return map[int]bool{-1: false, 0: true, 1: true, 255: true, 256: true, 65536: true, lastTick - 1: true, lastTick: true, lastTick + 1: false, 1 << 24: false, 1 << 32: false, 1<<32 + 5: false, -(1 << 32): false, math.MaxInt: false, math.MinInt: false, math.MinInt + 1: false}
}

// mintAddrs: some right ones, and some that are not.
func mintAddrs() map[impl.Addr]bool {
	l := map[impl.Addr]bool{addr(0, 0): true, addr(0x0a000007, 7007): true, addr(1<<32-1, 65535): true}
	for _, a := range []impl.Addr{addr(-1, 0), addr(1<<32, 0), addr(0, -1), addr(0, 65536), addr(1<<32+0x0a000007, 7007), addr(0x0a000007, 65536+7007), addr(math.MinInt, math.MaxInt), addr(math.MaxInt, math.MinInt)} {
		l[a] = false
	}
	return l
}

func nonceLengths() []int {
	return []int{0, 11, 12, 13, 24}
}

// Each part at its edges beside each other one at its own.
func TestMintingsAtTheirEdges(t *testing.T) {
	j, asked, minted := someJar(), 0, 0
	for a, mayAddr := range mintAddrs() {
		for id, mayId := range edgesOfId() {
			for tick, mayTick := range edgesOfTime() {
				for _, cn := range nonceLengths() {
					for _, sn := range nonceLengths() {
						m := minting{a, id, counted(10, cn), counted(50, sn), tick}
						may := mayAddr && mayId && mayTick && cn == 12 && sn == 12
						body, cookie := impl.MintBody(m.a, m.id, m.cn, m.sn, m.tick), impl.Mint(j, m.a, m.id, m.cn, m.sn, m.tick)
						if (len(body) == sizeOfBody) != may || (len(cookie) == sizeOfTag) != may || !may && len(body)+len(cookie) != 0 {
							t.Errorf("MintBody of %v is %x, Mint %x", m, body, cookie)
						}
						if may {
							mustMintAsTold(t, j, m)
							minted++
						}
						asked++
					}
				}
			}
		}
	}
	if want := 3 * 4 * 7; minted != want || asked < 10000 {
		t.Errorf("%d of %d were minted, not %d", minted, asked, want)
	}
}

func TestNoncesOfMintingsAtTheirEdges(t *testing.T) {
	j := someJar()
	for cn, mayCn := range edgesOfNonce() {
		for sn, maySn := range edgesOfNonce() {
			m := minting{impl.Near(3), 2, roomy(counted(10, cn)...), roomy(counted(50, sn)...), 300}
			if cookie := mustMintAsTold(t, j, m); (len(cookie) > 0) != (mayCn && maySn) {
				t.Errorf("Mint of nonces of %d and %d bytes is %x", cn, sn, cookie)
			}
		}
	}
	mustNotMint(t, j, minting{impl.Near(3), 2, nil, counted(50, 12), 300})
	mustNotMint(t, j, minting{impl.Near(3), 2, counted(10, 12), nil, 300})
	mustNotMint(t, j, minting{})
}

func TestWrongAddrsAreGivenNoCookie(t *testing.T) {
	j, m := someJar(), someMinting()
	f := finishOf(m, mintOf(j, m))
	for _, a := range wrongAddrs() {
		m.a = a
		mustNotMint(t, j, m)
		mustJudge(t, j, m.tick, a, f, impl.CoForm)
	}
}

// mintings: several addresses, ids, nonces and ticks, each with each.
func mintings() []minting {
	l := []minting{}
	for _, a := range []impl.Addr{impl.Near(0), impl.Near(255), addr(0, 0), addr(1<<32-1, 65535)} {
		for _, id := range []int{1, 2, 9} {
			for _, cn := range [][]byte{counted(10, 12), make([]byte, 12)} {
				for _, sn := range [][]byte{counted(10, 12), bytes.Repeat([]byte{255}, 12)} {
					for _, tick := range []int{0, 1, 300, 65536, lastTick - 11, lastTick - 10, lastTick - 9, lastTick} {
						l = append(l, minting{a, id, cn, sn, tick})
					}
				}
			}
		}
	}
	return l
}

func TestWhatMintBodyLays(t *testing.T) {
	met := map[string]int{}
	for _, m := range mintings() {
		b := impl.MintBody(m.a, m.id, m.cn, m.sn, m.tick)
		if len(b) != sizeOfBody {
			t.Fatalf("MintBody of %v has %d bytes", m, len(b))
		}
		met[string(b)]++
		if b[0] != 0x63 || !bytes.Equal(b[1:7], impl.PutAddr(nil, m.a)) || int(b[7]) != m.id || !bytes.Equal(b[8:20], m.cn) || !bytes.Equal(b[20:32], m.sn) || !bytes.Equal(b[32:], impl.PutN(nil, m.tick, 4)) {
			t.Errorf("MintBody of %v is %x", m, b)
		}
		mustMintAsTold(t, someJar(), m)
	}
	if len(met) != len(mintings()) {
		t.Errorf("of %d there are %d unlike bodies", len(mintings()), len(met))
	}
}

// What a tag is of is handed out alone: the place behind it is not.
func TestWhatATagIsOfHasNoRoomBehindIt(t *testing.T) {
	for _, m := range mintings() {
		if b := impl.MintBody(m.a, m.id, m.cn, m.sn, m.tick); cap(b) != len(b) {
			t.Errorf("behind MintBody of %v there are %d bytes more", m, cap(b)-len(b))
		}
	}
}

// P11: from its tick on, up to CookieLife later, and at no other time.
func TestCookiesAreKnownAgainAsLongAsTheyLive(t *testing.T) {
	for _, roll := range [][]byte{[]byte("twelve bytes"), make([]byte, 12), counted(200, 12)} {
		j := impl.JarNew(roll)
		for _, m := range mintings() {
			f := finishOf(m, impl.Mint(j, m.a, m.id, m.cn, m.sn, m.tick))
			for now := m.tick - 3; now <= m.tick+13; now++ {
				switch {
				case now < 0 || now > lastTick:
					mustJudge(t, j, now, m.a, f, impl.CoForm)
				case now < m.tick || now > m.tick+lifeOfACookie:
					mustJudge(t, j, now, m.a, f, impl.CoStale)
				default:
					mustJudge(t, j, now, m.a, f, impl.CoGood)
				}
			}
			mustJudgeAsTold(t, j, 0, m.a, f)
			mustJudgeAsTold(t, j, lastTick, m.a, f)
		}
	}
}

// P11, the other half: each byte of the cookie, by each other value.
func TestCookiesWithAByteTurnedAreNotKnown(t *testing.T) {
	j := someJar()
	for _, m := range []minting{someMinting(), {addr(0, 0), 1, make([]byte, 12), make([]byte, 12), 0}} {
		f := finishOf(m, mustMintAsTold(t, j, m))
		for i := range f.Cookie {
			for by := 1; by < 256; by++ {
				f.Cookie[i] ^= byte(by)
				mustJudge(t, j, m.tick, m.a, f, impl.CoTag)
				f.Cookie[i] ^= byte(by)
			}
		}
		mustJudge(t, j, m.tick, m.a, f, impl.CoGood)
	}
}

// Two bytes that are turned alike, or that change places, do not make up for each other.
func TestCookiesWithTwoBytesTurnedAreNotKnown(t *testing.T) {
	j, m := someJar(), someMinting()
	f := finishOf(m, mustMintAsTold(t, j, m))
	for i := range f.Cookie {
		for k := range i {
			f.Cookie[i] ^= 255
			f.Cookie[k] ^= 255
			mustJudge(t, j, m.tick, m.a, f, impl.CoTag)
			f.Cookie[i] ^= 255
			f.Cookie[k] ^= 255
			f.Cookie[i], f.Cookie[k] = f.Cookie[k], f.Cookie[i]
			mustJudgeAsTold(t, j, m.tick, m.a, f)
			f.Cookie[i], f.Cookie[k] = f.Cookie[k], f.Cookie[i]
		}
	}
	for n := range 40 {
		f.Cookie = counted(1, n)
		code := impl.CoForm
		if n == sizeOfTag {
			code = impl.CoTag
		}
		mustJudge(t, j, m.tick, m.a, f, code)
	}
}

// A cookie that was minted for one address, id, pair of nonces and tick is none for another.
func TestCookiesAreNotKnownElsewhere(t *testing.T) {
	j := someJar()
	all := mintings()
	for i := 0; i < len(all); i += 11 {
		cookie := impl.Mint(j, all[i].a, all[i].id, all[i].cn, all[i].sn, all[i].tick)
		for k, other := range all {
			code := impl.CoTag
			if k == i {
				code = impl.CoGood
			}
			mustJudge(t, j, other.tick, other.a, finishOf(other, cookie), code)
		}
	}
}

// Of what a cookie is minted of each bit of each part counts.
func TestCookiesHangOnEachBit(t *testing.T) {
	j, m := someJar(), someMinting()
	f := finishOf(m, mustMintAsTold(t, j, m))
	now := m.tick + 5
	for bit := range 32 {
		mustJudge(t, j, now, addr(m.a.Host^1<<bit, m.a.Port), f, impl.CoTag)
	}
	for bit := range 16 {
		mustJudge(t, j, now, addr(m.a.Host, m.a.Port^1<<bit), f, impl.CoTag)
	}
	for _, list := range []*[]byte{&f.Cn, &f.Sn} {
		was := *list
		for i := range was {
			for bit := range 8 {
				*list = slices.Clone(was)
				(*list)[i] ^= 1 << bit
				mustJudge(t, j, now, m.a, f, impl.CoTag)
			}
		}
		*list = was
	}
	f.Cn, f.Sn = f.Sn, f.Cn
	mustJudge(t, j, now, m.a, f, impl.CoTag)
	f.Cn, f.Sn = f.Sn, f.Cn
	for id := 1; id <= 9; id++ {
		f.Id = id
		code := impl.CoTag
		if id == m.id {
			code = impl.CoGood
		}
		mustJudge(t, j, now, m.a, f, code)
	}
	f.Id = m.id
	for tick := now - 10; tick <= now; tick++ {
		f.Tick = tick
		code := impl.CoTag
		if tick == m.tick {
			code = impl.CoGood
		}
		mustJudge(t, j, now, m.a, f, code)
	}
}

func TestCookiesOfAnotherJarAreNotKnown(t *testing.T) {
	j, m := someJar(), someMinting()
	f := finishOf(m, mustMintAsTold(t, j, m))
	for i := range sizeOfKey {
		for bit := range 8 {
			other := impl.Jar{Secret: slices.Clone(j.Secret)}
			other.Secret[i] ^= 1 << bit
			mustJudge(t, other, m.tick, m.a, f, impl.CoTag)
			mustJudge(t, j, m.tick, m.a, finishOf(m, mustMintAsTold(t, other, m)), impl.CoTag)
			mustJudge(t, other, m.tick, m.a, finishOf(m, mustMintAsTold(t, other, m)), impl.CoGood)
		}
	}
	mustJudge(t, impl.JarNew([]byte("another roll")), m.tick, m.a, f, impl.CoTag)
}

// Whether a proof is right is not told here: only that there is one.
func TestTheProofIsNotJudged(t *testing.T) {
	j, m := someJar(), someMinting()
	f := finishOf(m, mustMintAsTold(t, j, m))
	for n := range 40 {
		for _, proof := range [][]byte{counted(1, n), make([]byte, n), bytes.Repeat([]byte{255}, n), withNoughts(f.Cookie[:min(n, 16)], n)} {
			f.Proof = proof
			code := impl.CoForm
			if n == sizeOfTag {
				code = impl.CoGood
			}
			mustJudge(t, j, m.tick, m.a, f, code)
		}
	}
}

func TestFreshAtItsEdges(t *testing.T) {
	for tick, mayTick := range edgesOfTime() {
		for now, mayNow := range edgesOfTime() {
			mustFreshAsTold(t, now, tick)
			if impl.Fresh(now, tick) && !(mayTick && mayNow) {
				t.Errorf("Fresh of %d and %d", now, tick)
			}
		}
		for by := range 30 {
			if tick > math.MinInt+15 && tick < math.MaxInt-15 {
				mustFreshAsTold(t, tick+by-15, tick)
			}
		}
		if !mayTick {
			continue
		}
		for by, want := range map[int]bool{-2: false, -1: false, 0: true, 1: true, 9: true, 10: true, 11: false, 12: false} {
			if got := impl.Fresh(tick+by, tick); got != (want && tick+by <= lastTick) {
				t.Errorf("Fresh of %d and %d is %v", tick+by, tick, got)
			}
		}
	}
	for _, now := range numbers() {
		for _, tick := range numbers() {
			mustFreshAsTold(t, now, tick)
		}
	}
}

func TestEachTickAgainstEachNow(t *testing.T) {
	for now := range 60 {
		for tick := range 60 {
			mustFreshAsTold(t, now, tick)
			mustFreshAsTold(t, lastTick+10-now, lastTick+10-tick)
			mustFreshAsTold(t, now-20, tick-20)
		}
	}
}

// The time at its edges beside each tick at its own: a word that is right in itself.
func TestTimesAtTheirEdges(t *testing.T) {
	j := someJar()
	for tick, mayTick := range edgesOfTime() {
		m := someMinting()
		m.tick = tick
		cookie := mustMintAsTold(t, j, m)
		if !mayTick {
			cookie = counted(90, 16)
		}
		f := finishOf(m, cookie)
		for now, mayNow := range edgesOfTime() {
			mustJudgeAsTold(t, j, now, m.a, f)
			if !mayTick || !mayNow {
				mustJudge(t, j, now, m.a, f, impl.CoForm)
			}
		}
		if mayTick {
			mustJudge(t, j, tick, m.a, f, impl.CoGood)
		}
	}
	for _, now := range numbers() {
		m := someMinting()
		mustJudgeAsTold(t, j, now, m.a, finishOf(m, mintOf(j, m)))
	}
}

func TestTheZeroJar(t *testing.T) {
	m := someMinting()
	for _, zero := range []impl.Jar{{}, {Secret: []byte{}}, {Secret: roomy()}, impl.JarNew(nil), impl.JarNew(counted(1, 11)), impl.JarNew(counted(1, 13))} {
		if impl.JarOk(zero) || len(zero.Secret) != 0 {
			t.Errorf("the zero jar is right: %x", zero.Secret)
		}
		mustNotMint(t, zero, m)
		mustNotMint(t, zero, minting{})
		for _, cookie := range [][]byte{mintOf(someJar(), m), hmacOf(nil, mintBodyOf(m))[:sizeOfTag], hmacOf(nil, nil)[:sizeOfTag], make([]byte, 16), nil} {
			mustJudge(t, zero, m.tick, m.a, finishOf(m, cookie), impl.CoForm)
		}
	}
}

// finishesThatAreWrong: KFinish that are not right: each part past its limits, or one that the kind does not name; and kinds that there are not.
func finishesThatAreWrong() []impl.Frame {
	l := []impl.Frame{{}, {Kind: impl.KFinish}}
	for _, part := range frameParts {
		l = append(l, withWrongPart(frameForms[2], part)...)
	}
	for _, kind := range wrongKinds() {
		f := someFrame(frameForms[2], 0)
		f.Kind = kind
		l = append(l, f)
	}
	return l
}

func TestFramesThatAreNotRightAreNotJudged(t *testing.T) {
	j, a := someJar(), impl.Near(3)
	wrong := finishesThatAreWrong()
	if len(wrong) < 50 {
		t.Errorf("there are %d", len(wrong))
	}
	for _, f := range wrong {
		now := min(max(f.Tick, 0), lastTick)
		mustJudge(t, j, now, a, f, impl.CoForm)
		f.Cookie = hmacOf(j.Secret, nil)[:sizeOfTag]
		mustJudgeAsTold(t, j, now, a, f)
		f.Cookie = mintOf(j, minting{a, f.Id, f.Cn, f.Sn, f.Tick})
		mustJudgeAsTold(t, j, now, a, f)
	}
}

// A right frame of any other kind is none that finishes: nor is one with the parts of a KFinish.
func TestFramesOfOtherKindsAreNotJudged(t *testing.T) {
	j, m := someJar(), someMinting()
	cookie := mintOf(j, m)
	for _, f := range rightFrames() {
		now := f.Tick
		if f.Kind != impl.KFinish {
			mustJudge(t, j, now, m.a, f, impl.CoForm)
			mustJudge(t, j, lastTick, m.a, f, impl.CoForm)
			continue
		}
		mustJudge(t, j, now, m.a, f, impl.CoTag)
		f.Cookie = mintOf(j, minting{m.a, f.Id, f.Cn, f.Sn, f.Tick})
		mustJudge(t, j, now, m.a, f, impl.CoGood)
	}
	given := impl.Frame{Kind: impl.KCookie, Cn: m.cn, Sn: m.sn, Tick: m.tick, Cookie: cookie}
	if !impl.FrameOk(given) {
		t.Errorf("%v is not right", given)
	}
	mustJudge(t, j, m.tick, m.a, given, impl.CoForm)
	for kind := -3; kind < 300; kind++ {
		f := finishOf(m, cookie)
		f.Kind = kind
		code := impl.CoForm
		if kind == impl.KFinish {
			code = impl.CoGood
		}
		mustJudge(t, j, m.tick, m.a, f, code)
	}
}

// Of the reasons that apply at once the one that is named first counts: all of CoForm, then CoStale, then CoTag.
func TestWhichCodeOfAJudgeComesFirst(t *testing.T) {
	m := someMinting()
	right := finishOf(m, mintOf(someJar(), m))
	bent := finishOf(m, counted(90, 16))
	noForm := finishOf(m, right.Cookie)
	noForm.Epoch = 1
	for _, j := range []impl.Jar{someJar(), {Secret: counted(1, 31)}} {
		for _, now := range []int{m.tick, m.tick - 1, m.tick + 11, -1, lastTick + 1} {
			for _, a := range []impl.Addr{m.a, impl.Near(4), addr(-1, 0)} {
				for _, f := range []impl.Frame{right, bent, noForm} {
					code := impl.CoGood
					switch {
					case len(j.Secret) == 31 || now == -1 || now == lastTick+1 || a.Host == -1 || f.Epoch == 1:
						code = impl.CoForm
					case now != m.tick:
						code = impl.CoStale
					case a != m.a || f.Cookie[0] == 90:
						code = impl.CoTag
					}
					mustJudge(t, j, now, a, f, code)
				}
			}
		}
	}
}

// A tick that is ahead of now is stale, however right the cookie; it is known when its time comes.
func TestCookiesOfLaterAreNotKnownYet(t *testing.T) {
	j, m := someJar(), someMinting()
	f := finishOf(m, mustMintAsTold(t, j, m))
	known := []int{}
	for now := range 700 {
		switch impl.Judge(j, now, m.a, f) {
		case impl.CoGood:
			known = append(known, now)
		case impl.CoStale:
		default:
			t.Errorf("at %d it is neither good nor stale", now)
		}
	}
	if !slices.Equal(known, []int{300, 301, 302, 303, 304, 305, 306, 307, 308, 309, 310}) {
		t.Errorf("it is known at %v", known)
	}
}

// Cookies go over the wire as they are.
func TestCookiesComeBackOfTheirBytes(t *testing.T) {
	j := someJar()
	for _, m := range mintings() {
		given, ok := impl.GetFrame(impl.PutFrame(impl.Frame{Kind: impl.KCookie, Cn: m.cn, Sn: m.sn, Tick: m.tick, Cookie: impl.Mint(j, m.a, m.id, m.cn, m.sn, m.tick)}))
		if !ok {
			t.Fatalf("what is given of %v is no frame", m)
		}
		back, ok := impl.GetFrame(impl.PutFrame(finishOf(minting{m.a, m.id, given.Cn, given.Sn, given.Tick}, given.Cookie)))
		if !ok {
			t.Fatalf("what finishes %v is no frame", m)
		}
		mustJudge(t, j, m.tick, m.a, back, impl.CoGood)
	}
}

// A cookieCall is what the chapter's functions are asked for.
type cookieCall struct {
	roll   []byte
	j      impl.Jar
	m      minting
	now    int
	finish impl.Frame
}

// withRoom: the same, all its lists with spare room.
func (c cookieCall) withRoom() cookieCall {
	c.roll, c.j.Secret = roomy(c.roll...), roomy(c.j.Secret...)
	c.m.cn, c.m.sn = roomy(c.m.cn...), roomy(c.m.sn...)
	for _, part := range frameParts {
		if part.list != nil {
			*part.list(&c.finish) = roomy(*part.list(&c.finish)...)
		}
	}
	return c
}

func (c cookieCall) lists() [][]byte {
	return [][]byte{c.roll, c.j.Secret, c.m.cn, c.m.sn}
}

func (c cookieCall) scribbleOver() {
	for _, l := range c.lists() {
		scribble(l)
	}
	scribbleFrame(c.finish)
}

func (c cookieCall) mustBeUntouched(t *testing.T, what string, was cookieCall) {
	t.Helper()
	for i, l := range c.lists() {
		mustBeUntouched(t, what, l, was.lists()[i]...)
	}
	mustBeUntouchedFrame(t, what, c.finish, was.finish)
}

// answers: all lists that are answered of a call.
func (c cookieCall) answers() [][]byte {
	impl.JarOk(c.j)
	impl.Fresh(c.now, c.m.tick)
	impl.Judge(c.j, c.now, c.m.a, c.finish)
	return [][]byte{impl.JarNew(c.roll).Secret, impl.MintBody(c.m.a, c.m.id, c.m.cn, c.m.sn, c.m.tick), impl.Mint(c.j, c.m.a, c.m.id, c.m.cn, c.m.sn, c.m.tick)}
}

func (c cookieCall) told() [][]byte {
	return [][]byte{jarOf(c.roll).Secret, mintBodyOf(c.m), mintOf(c.j, c.m)}
}

// cookieCalls: such as each code answers, and some that are wrong in one thing, or in all.
func cookieCalls() []cookieCall {
	l := []cookieCall{{}, {roll: counted(1, 13), j: impl.Jar{Secret: counted(1, 33)}, m: minting{addr(-1, -1), 10, counted(1, 13), counted(1, 11), -1}, now: -1, finish: someFrame(frameForms[3], 41)}}
	for _, m := range []minting{someMinting(), {addr(0, 0), 9, make([]byte, 12), make([]byte, 12), lastTick}, {impl.Near(3), 10, counted(10, 12), counted(50, 12), 7}, {impl.Near(3), 1, counted(10, 11), counted(50, 13), 7}} {
		for _, secret := range []int{0, 31, 32, 33} {
			j := impl.Jar{Secret: counted(1, secret)}
			for _, cookie := range [][]byte{mintOf(j, m), counted(90, 16), counted(90, 17)} {
				for _, by := range []int{-1, 0, 11} {
					l = append(l, cookieCall{counted(60, 12), j, m, m.tick + by, finishOf(m, cookie)})
				}
			}
		}
	}
	return l
}

// A watchedCall is what a chapter's functions are asked for, which tells what lists they answer, and what lists they ought to.
type watchedCall[C any] interface {
	withRoom() C
	answers() [][]byte
	told() [][]byte
	scribbleOver()
	mustBeUntouched(t *testing.T, what string, was C)
}

// mustWriteIntoNone: what it is asked for stays as it was, spare room and all, though each answer is written over.
func mustWriteIntoNone[C watchedCall[C]](t *testing.T, was C) C {
	t.Helper()
	c := was.withRoom()
	answers := c.answers()
	c.mustBeUntouched(t, "asked", was)
	for i, want := range was.told() {
		if !bytes.Equal(answers[i], want) {
			t.Errorf("the list %d of %v is %x, not %x", i, was, answers[i], want)
		}
		scribble(answers[i])
		c.mustBeUntouched(t, "with an answer written over", was)
	}
	return c
}

// mustShareNone: an answer stays as it was when what was asked for and all other lists that are answered are written over.
func mustShareNone[C watchedCall[C]](t *testing.T, was C) {
	t.Helper()
	for i, want := range was.told() {
		c := was.withRoom()
		answers := c.answers()
		for k, a := range append(answers, c.answers()...) {
			if k != i {
				scribble(a)
			}
		}
		c.scribbleOver()
		if !bytes.Equal(answers[i], want) {
			t.Errorf("the list %d of %v is %x now, not %x", i, was, answers[i], want)
		}
	}
}

func TestCookiesWriteIntoNoArgumentAndShareNone(t *testing.T) {
	met := map[int]int{}
	for _, was := range cookieCalls() {
		c := mustWriteIntoNone(t, was)
		mustJudgeAsTold(t, c.j, c.now, c.m.a, c.finish)
		met[impl.Judge(c.j, c.now, c.m.a, c.finish)]++
		c.mustBeUntouched(t, "judged", was)
	}
	for _, code := range []int{impl.CoGood, impl.CoForm, impl.CoStale, impl.CoTag} {
		if met[code] == 0 {
			t.Errorf("none is judged %d", code)
		}
	}
}

func TestListsOfCookiesShareNone(t *testing.T) {
	for _, was := range cookieCalls() {
		mustShareNone(t, was)
	}
}

// Lists that are one, and lists that stand one in the other's spare room, are like any others.
func TestCookiesOfListsThatShareMemory(t *testing.T) {
	whole := pattern(200)
	j := impl.Jar{Secret: whole[:32]}
	for _, m := range []minting{
		{impl.Near(1), 1, whole[:12], whole[:12], 5},
		{impl.Near(1), 1, whole[:12], whole[12:24], 5},
		{impl.Near(1), 1, whole[30:42], whole[25:37], 5},
		{impl.Near(1), 1, whole[20:32], whole[8:20], 5},
	} {
		cookie := mustMintAsTold(t, j, m)
		mustJudge(t, j, 5, m.a, finishOf(m, cookie), impl.CoGood)
		f := finishOf(m, whole[16:32])
		f.Proof = whole[16:32]
		mustJudge(t, j, 5, m.a, f, impl.CoTag)
	}
	mustJarAsTold(t, whole[:12])
	if !bytes.Equal(whole, pattern(200)) {
		t.Error("they were written into")
	}
}

// What was asked, judged or refused ahead leaves nothing behind: a cookie is known as often as it comes.
func TestJarsKeepNothing(t *testing.T) {
	j, m := someJar(), someMinting()
	f := finishOf(m, mustMintAsTold(t, j, m))
	for range 3 {
		mustJudge(t, j, m.tick, m.a, f, impl.CoGood)
		mustJudge(t, j, m.tick+11, m.a, f, impl.CoStale)
		mustJudge(t, j, m.tick, impl.Near(9), f, impl.CoTag)
		mustJudge(t, impl.Jar{}, m.tick, m.a, f, impl.CoForm)
		mustNotMint(t, impl.Jar{}, m)
		mustNotMint(t, j, minting{})
		scribble(mustMintAsTold(t, j, m))
		scribble(mustJarAsTold(t, counted(60, 12)).Secret)
		mustJarAsTold(t, counted(60, 11))
		mustFreshAsTold(t, 5, 5)
		mustFreshAsTold(t, 5, 6)
	}
}
