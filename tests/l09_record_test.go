package tests

import (
	"bytes"
	"encoding/binary"
	"encoding/hex"
	"fmt"
	"math"
	"math/rand"
	"slices"
	"testing"

	"loop.example/g00478/impl"
)

const (
	mostSeqs  = 281474976710656
	dataSeqs  = 281474976709656
	sizeOfKey = 32
	sizeOfTag = 16
)

var (
	sealedForms = frameForms[3:]
	bothRoles   = []int{0, 1}
)

// headOf, tagInputOf, sealOf, unsealOf, epIsRight, epSealOf, epOpenOf: what the chapter says, the library's way.
func headOf(role int, sn []byte, epoch int, seq int) []byte {
	if role < 0 || role > 1 || len(sn) != 12 || epoch < 0 || epoch > 4294967295 || seq < 0 || seq >= mostSeqs {
		return nil
	}
	b := binary.BigEndian.AppendUint32(append([]byte{byte(role)}, sn...), uint32(epoch))
	return append(b, binary.BigEndian.AppendUint64(nil, uint64(seq))[2:]...)
}

func takesTag(role int, f impl.Frame) bool {
	return (role == 0 || role == 1) && f.Kind >= 4 && frameIsRight(f)
}

func tagInputOf(role int, f impl.Frame) []byte {
	if !takesTag(role, f) {
		return nil
	}
	return slices.Concat([]byte{'t'}, headOf(role, f.Sn, f.Epoch, f.Seq), []byte{byte(f.Kind)}, f.Body)
}

// A sealing is what Seal is asked for.
type sealing struct {
	key              []byte
	role             int
	sn               []byte
	epoch, seq, kind int
	plain            []byte
}

func sealOf(s sealing) (impl.Frame, bool) {
	f := impl.Frame{Kind: s.kind, Sn: s.sn, Epoch: s.epoch, Seq: s.seq, Body: s.plain, Tag: make([]byte, sizeOfTag)}
	if len(s.key) != sizeOfKey || !takesTag(s.role, f) {
		return impl.Frame{}, false
	}
	f.Body = mixOf(s.key, headOf(s.role, s.sn, s.epoch, s.seq), s.plain)
	f.Tag = hmacOf(s.key, tagInputOf(s.role, f))[:sizeOfTag]
	return f, true
}

func unsealOf(key []byte, role int, f impl.Frame) ([]byte, bool) {
	if len(key) != sizeOfKey || !takesTag(role, f) || !bytes.Equal(f.Tag, hmacOf(key, tagInputOf(role, f))[:sizeOfTag]) {
		return nil, false
	}
	return mixOf(key, headOf(role, f.Sn, f.Epoch, f.Seq), f.Body), true
}

func epIsRight(e impl.Ep) bool {
	return e.N >= 0 && e.N <= 4294967295 && len(e.Key) == sizeOfKey && e.Seq >= 0 && e.Seq <= mostSeqs && winIsRight(e.Win)
}

func epSealOf(e impl.Ep, role int, sn []byte, kind int, plain []byte) (impl.Ep, impl.Frame, int) {
	s := sealing{e.Key, role, sn, e.N, 0, kind, plain}
	if _, ok := sealOf(s); !ok || !epIsRight(e) {
		return e, impl.Frame{}, impl.CoForm
	}
	if kind == 4 && e.Seq >= dataSeqs {
		return e, impl.Frame{}, impl.CoRekey
	}
	if e.Seq == mostSeqs {
		return e, impl.Frame{}, impl.CoSpent
	}
	s.seq = e.Seq
	f, _ := sealOf(s)
	e.Seq++
	return e, f, impl.CoGood
}

func epOpenOf(e impl.Ep, role int, f impl.Frame) (impl.Ep, []byte, int) {
	if !epIsRight(e) || !takesTag(role, f) || f.Epoch != e.N {
		return e, nil, impl.CoForm
	}
	if !mayOf(e.Win, f.Seq) {
		return e, nil, impl.CoOld
	}
	plain, ok := unsealOf(e.Key, role, f)
	if !ok {
		return e, nil, impl.CoTag
	}
	e.Win = addedTo(e.Win, f.Seq)
	return e, plain, impl.CoGood
}

func sameEps(a impl.Ep, b impl.Ep) bool {
	return a.N == b.N && bytes.Equal(a.Key, b.Key) && a.Seq == b.Seq && sameWins(a.Win, b.Win)
}

// someEp: a right one, of which these were taken.
func someEp(n int, seq int, taken ...int) impl.Ep {
	w := winFrom(-1)
	if len(taken) > 0 {
		w = winFrom(slices.Max(taken), taken...)
	}
	return impl.Ep{N: n, Key: counted(1, sizeOfKey), Seq: seq, Win: w}
}

func someSealing(form frameForm, role int, body int) sealing {
	return sealing{counted(1, sizeOfKey), role, counted(60, 12), 5, 9, form.kind, counted(100, body)}
}

// sealedAs: what who has the key and the role of an epoch like e sends with this number.
func sealedAs(e impl.Ep, role int, seq int, form frameForm, body int) impl.Frame {
	s := someSealing(form, role, body)
	s.key, s.epoch, s.seq = e.Key, e.N, seq
	f, _ := sealOf(s)
	return f
}

func mustHeadAsTold(t *testing.T, role int, sn []byte, epoch int, seq int) {
	t.Helper()
	want := headOf(role, sn, epoch, seq)
	if got := impl.HeadOf(role, sn, epoch, seq); !bytes.Equal(got, want) {
		t.Errorf("HeadOf of the role %d, %d bytes, the epoch %d and the number %d is %x, not %x", role, len(sn), epoch, seq, got, want)
	}
}

// mustAskAsTold: TagInput and Unseal of a frame of whatever kind.
func mustAskAsTold(t *testing.T, key []byte, role int, f impl.Frame) {
	t.Helper()
	if got, want := impl.TagInput(role, f), tagInputOf(role, f); !bytes.Equal(got, want) {
		t.Errorf("TagInput of the role %d and %v is %x, not %x", role, f, got, want)
	}
	want, may := unsealOf(key, role, f)
	if got, ok := impl.Unseal(key, role, f); ok != may || !bytes.Equal(got, want) {
		t.Errorf("Unseal of the key %x, the role %d and %v is %x, %v, not %x, %v", key, role, f, got, ok, want, may)
	}
}

// mustSealAsTold: and what is sealed is opened as it was.
func mustSealAsTold(t *testing.T, s sealing) {
	t.Helper()
	want, may := sealOf(s)
	f, ok := impl.Seal(s.key, s.role, s.sn, s.epoch, s.seq, s.kind, s.plain)
	if ok != may || !sameFrames(f, want) {
		t.Errorf("Seal of %v is %v, %v, not %v, %v", s, f, ok, want, may)
	}
	mustAskAsTold(t, s.key, s.role, f)
	if back, open := impl.Unseal(s.key, s.role, f); open != may || may && !bytes.Equal(back, s.plain) {
		t.Errorf("what is sealed of %v is opened as %x, %v", s, back, open)
	}
}

func mustSealOrNot(t *testing.T, s sealing, want bool) {
	t.Helper()
	mustSealAsTold(t, s)
	if f, ok := impl.Seal(s.key, s.role, s.sn, s.epoch, s.seq, s.kind, s.plain); ok != want || impl.FrameOk(f) != want {
		t.Errorf("Seal of %v is %v, %v", s, f, ok)
	}
}

// mustEpSeal: with this code; but CoGood, it comes back as it was, with the zero frame.
func mustEpSeal(t *testing.T, e impl.Ep, role int, sn []byte, kind int, plain []byte, code int) (impl.Ep, impl.Frame) {
	t.Helper()
	wantE, wantF, told := epSealOf(e, role, sn, kind, plain)
	gotE, gotF, got := impl.EpSeal(e, role, sn, kind, plain)
	if got != code || told != code || !sameEps(gotE, wantE) || !sameFrames(gotF, wantF) {
		t.Errorf("EpSeal of %v, the role %d, %x, the kind %d and %x is %v, %v, %d, not %v, %v, %d", e, role, sn, kind, plain, gotE, gotF, got, wantE, wantF, code)
	}
	if code != impl.CoGood && (!sameEps(gotE, e) || !sameFrames(gotF, impl.Frame{})) {
		t.Errorf("EpSeal with the code %d is %v, %v", got, gotE, gotF)
	}
	return gotE, gotF
}

// mustEpOpen: with this code; but CoGood, it comes back as it was, with nothing.
func mustEpOpen(t *testing.T, e impl.Ep, role int, f impl.Frame, code int) (impl.Ep, []byte) {
	t.Helper()
	wantE, want, told := epOpenOf(e, role, f)
	gotE, plain, got := impl.EpOpen(e, role, f)
	if got != code || told != code || !sameEps(gotE, wantE) || !bytes.Equal(plain, want) {
		t.Errorf("EpOpen of %v, the role %d and %v is %v, %x, %d, not %v, %x, %d", e, role, f, gotE, plain, got, wantE, want, code)
	}
	if code != impl.CoGood && (!sameEps(gotE, e) || len(plain) != 0) {
		t.Errorf("EpOpen with the code %d is %v, %x", got, gotE, plain)
	}
	return gotE, plain
}

func TestLimitsOfRecords(t *testing.T) {
	codes := []int{impl.CoGood, impl.CoForm, impl.CoTag, impl.CoOld, impl.CoRekey, impl.CoSpent, impl.CoState, impl.CoFull, impl.CoNone, impl.CoStale}
	if !slices.Equal(codes, counting(10)) || impl.RoClient != 0 || impl.RoServer != 1 || impl.DataSeq != dataSeqs || impl.MaxSeq != mostSeqs {
		t.Errorf("a code, a role or a limit is not as the chapter has it: %v", codes)
	}
}

// counting: 0, 1, and so on, n of them.
func counting(n int) []int {
	l := make([]int, n)
	for i := range l {
		l[i] = i
	}
	return l
}

func TestKnownHeads(t *testing.T) {
	for _, c := range []struct {
		role       int
		sn         []byte
		epoch, seq int
		want       string
	}{
		{0, make([]byte, 12), 0, 0, "0000000000000000000000000000000000000000000000"},
		{1, []byte("twelve bytes"), 2, 3, "017477656c766520627974657300000002000000000003"},
		{0, counted(1, 12), 0x01020304, 0x060708090a0b, "000102030405060708090a0b0c01020304060708090a0b"},
		{1, bytes.Repeat([]byte{255}, 12), 4294967295, mostSeqs - 1, "01ffffffffffffffffffffffffffffffffffffffffffff"},
	} {
		if got := hex.EncodeToString(impl.HeadOf(c.role, c.sn, c.epoch, c.seq)); got != c.want {
			t.Errorf("HeadOf of %d, %x, %d and %d is %s, not %s", c.role, c.sn, c.epoch, c.seq, got, c.want)
		}
	}
}

func TestKnownSeals(t *testing.T) {
	sn, ones := []byte("twelve bytes"), bytes.Repeat([]byte{255}, sizeOfKey)
	for _, c := range []struct {
		s    sealing
		want string
	}{
		{sealing{counted(0, 32), 0, sn, 0, 0, impl.KData, nil}, "047477656c7665206279746573000000000000000000008fdcb258407d9d5fa5a9c0988fec2120"},
		{sealing{counted(0, 32), 1, sn, 0, 0, impl.KData, nil}, "047477656c766520627974657300000000000000000000d35a05e2f7dc0b76a5cd6c2240bd6d11"},
		{sealing{counted(0, 32), 0, sn, 2, 3, impl.KData, []byte("hello")}, "047477656c766520627974657300000002000000000003422acca1a4c945fab64cd044722c32a1c15df97186"},
		{sealing{counted(0, 32), 1, sn, 2, 3, impl.KData, []byte("hello")}, "047477656c7665206279746573000000020000000000034fa69a15e53f4908f010683c84d5b00b5b6b7c04f5"},
		{sealing{make([]byte, 32), 0, make([]byte, 12), 4294967295, mostSeqs - 1, impl.KData, counted(0, 40)}, "04000000000000000000000000ffffffffffffffffffff52685775f38e34a9eddcb22e42b251f8c3b8a08bc896a75913680828e6e0033b2bc102d10e32f4dffc82d024746874948163a0703ba9720f"},
		{sealing{counted(0, 32), 1, sn, 7, dataSeqs, impl.KChallenge, []byte("a new place?")}, "057477656c766520627974657300000007fffffffffc185785e48e0c9c1843371afb10a1f5e23a78773bea4ac2202ec2ea0c20"},
		{sealing{counted(0, 32), 0, sn, 7, 258, impl.KResponse, []byte("a new place!")}, "067477656c7665206279746573000000070000000001025f22e2aad9577d3fc5af4cf83511fa6e923979bda4d1578657a9af72"},
		{sealing{counted(0, 32), 0, sn, 8, 0, impl.KRekey, []byte{0, 0, 0, 9}}, "077477656c766520627974657300000008000000000000a061d0a3fb123443860585ed1e861c4432602326"},
		{sealing{ones, 1, sn, 9, 1, impl.KRekeyAck, []byte{0, 0, 0, 9}}, "087477656c766520627974657300000009000000000001ddc9aebc85c289253cc50373756260322cb50d1f"},
	} {
		f, ok := impl.Seal(c.s.key, c.s.role, c.s.sn, c.s.epoch, c.s.seq, c.s.kind, c.s.plain)
		if got := hex.EncodeToString(impl.PutFrame(f)); !ok || got != c.want {
			t.Errorf("Seal of %v is %s, %v, not %s", c.s, got, ok, c.want)
		}
		mustSealOrNot(t, c.s, true)
	}
}

func edgesOfRole() map[int]bool {
	return map[int]bool{-1: false, 0: true, 1: true, 2: false, 3: false, 255: false, 256: false, 257: false, -255: false, 1 << 32: false, 1<<32 + 1: false, math.MaxInt: false, math.MinInt: false, math.MinInt + 1: false}
}

func edgesOfNonce() map[int]bool {
	return map[int]bool{0: false, 1: false, 11: false, 12: true, 13: false, 16: false, 24: false, 1000: false}
}

func edgesOfKey() map[int]bool {
	return map[int]bool{0: false, 1: false, 16: false, 31: false, 32: true, 33: false, 64: false, 65: false, impl.MaxSha: false, impl.MaxSha + 1: false}
}

func edgesOfEpoch() map[int]bool {
	return map[int]bool{-1: false, 0: true, 1: true, 4294967294: true, 4294967295: true, 4294967296: false, 4294967297: false, -4294967296: false, math.MaxInt: false, math.MinInt: false, math.MinInt + 1: false}
}

func edgesOfSeq() map[int]bool {
	return map[int]bool{-1: false, 0: true, 1: true, dataSeqs - 1: true, dataSeqs: true, mostSeqs - 2: true, mostSeqs - 1: true, mostSeqs: false, mostSeqs + 1: false, -mostSeqs: false, math.MaxInt: false, math.MinInt: false, math.MinInt + 1: false}
}

func TestHeadsAtTheirEdges(t *testing.T) {
	asked := 0
	for role, mayRole := range edgesOfRole() {
		for n, mayNonce := range edgesOfNonce() {
			for epoch, mayEpoch := range edgesOfEpoch() {
				for seq, maySeq := range edgesOfSeq() {
					mustHeadAsTold(t, role, roomy(counted(60, n)...), epoch, seq)
					if got := len(impl.HeadOf(role, counted(60, n), epoch, seq)); (got == 23) != (mayRole && mayNonce && mayEpoch && maySeq) {
						t.Errorf("HeadOf of %d, %d bytes, %d and %d has %d bytes", role, n, epoch, seq, got)
					}
					asked++
				}
			}
		}
	}
	if asked < 10000 {
		t.Errorf("%d were asked", asked)
	}
	mustHeadAsTold(t, 0, nil, 0, 0)
}

// Heads of unlike parts are unlike: so no two words are mixed with one stream.
func TestHeadsAreUnlike(t *testing.T) {
	met := map[string]string{}
	for _, role := range bothRoles {
		for _, sn := range [][]byte{make([]byte, 12), counted(0, 12), counted(1, 12), bytes.Repeat([]byte{255}, 12)} {
			for _, epoch := range []int{0, 1, 256, 65536, 4294967295} {
				for _, seq := range []int{0, 1, 256, 1 << 40, dataSeqs, mostSeqs - 1} {
					of := fmt.Sprint(role, sn, epoch, seq)
					head := string(impl.HeadOf(role, sn, epoch, seq))
					if was, ok := met[head]; ok {
						t.Errorf("%s and %s have the head %x", was, of, head)
					}
					met[head] = of
				}
			}
		}
	}
}

func TestTagInputs(t *testing.T) {
	had := 0
	for _, f := range rightFrames() {
		for role, may := range edgesOfRole() {
			mustAskAsTold(t, counted(1, sizeOfKey), role, f)
			in := impl.TagInput(role, f)
			if (len(in) > 0) != (may && f.Kind >= impl.KData) {
				t.Errorf("TagInput of the role %d and %v is %x", role, f, in)
			}
			if len(in) > 0 {
				had++
				if in[0] != 0x74 || !bytes.Equal(in[1:24], impl.HeadOf(role, f.Sn, f.Epoch, f.Seq)) || int(in[24]) != f.Kind || !bytes.Equal(in[25:], f.Body) {
					t.Errorf("TagInput of the role %d and %v is %x", role, f, in)
				}
			}
		}
	}
	if had == 0 {
		t.Error("there was none")
	}
}

// wrongRecords: frames that nobody can have sealed, whatever the key: none of them is right, and sealed.
func wrongRecords() []impl.Frame {
	l := []impl.Frame{{}}
	for _, form := range frameForms[:3] {
		l = append(l, someFrame(form, 0), impl.Frame{Kind: form.kind})
	}
	for _, form := range sealedForms {
		l = append(l, impl.Frame{Kind: form.kind}, someFrame(form, form.mostBody+1))
		if form.leastBody > 0 {
			l = append(l, someFrame(form, form.leastBody-1), someFrame(form, 0))
		}
		for _, kind := range wrongKinds() {
			f := someFrame(form, form.mostBody)
			f.Kind = kind
			l = append(l, f)
		}
		for _, part := range frameParts {
			l = append(l, withWrongPart(form, part)...)
		}
	}
	return l
}

// withWrongPart: frames of this form that are right but for this one part: past its limits, or one that the kind does not name.
func withWrongPart(form frameForm, part framePart) []impl.Frame {
	l := []impl.Frame{}
	if part.number != nil {
		for _, n := range []int{-1, 0, 1, part.least - 1, part.least, part.most, part.most + 1, math.MaxInt, math.MinInt} {
			f := someFrame(form, form.mostBody)
			*part.number(&f) = n
			l = append(l, f)
		}
	} else {
		for _, n := range []int{0, 1, part.size - 1, part.size, part.size + 1, 41, 201, 1000} {
			f := someFrame(form, form.mostBody)
			*part.list(&f) = counted(3, max(0, n))
			l = append(l, f)
		}
	}
	return slices.DeleteFunc(l, frameIsRight)
}

func TestWrongFramesAreNotOpened(t *testing.T) {
	e := someEp(0xf1f2f3f4, 7)
	for _, f := range wrongRecords() {
		for role := range edgesOfRole() {
			mustAskAsTold(t, e.Key, role, f)
			if in := impl.TagInput(role, f); len(in) != 0 {
				t.Errorf("TagInput of %v is %x", f, in)
			}
			if p, ok := impl.Unseal(e.Key, role, f); ok || len(p) != 0 {
				t.Errorf("Unseal of %v is %x, %v", f, p, ok)
			}
			of := e
			of.N = f.Epoch
			mustEpOpen(t, of, role, f, impl.CoForm)
			mustEpOpen(t, e, role, f, impl.CoForm)
		}
	}
}

// Nothing has a tag, too: a frame that has no TagInput is not opened by it.
func TestTheTagOfNothingOpensNothing(t *testing.T) {
	e := someEp(0xf1f2f3f4, 7)
	ofNothing := hmacOf(e.Key, nil)[:sizeOfTag]
	for _, f := range append(wrongRecords(), someFrame(sealedForms[0], 40)) {
		f.Tag = ofNothing
		for role := range edgesOfRole() {
			mustAskAsTold(t, e.Key, role, f)
			if p, ok := impl.Unseal(e.Key, role, f); ok || len(p) != 0 {
				t.Errorf("Unseal of the role %d and %v is %x, %v", role, f, p, ok)
			}
		}
	}
}

// A part that its kind does not name makes a frame that was sealed wrong, though its tag is of none of them.
func TestSealedFramesWithPartsThatTheirKindDoesNotName(t *testing.T) {
	e := someEp(5, 0)
	for _, form := range sealedForms {
		for _, part := range frameParts {
			if form.names(part) {
				continue
			}
			f := sealedAs(e, 1, 9, form, form.mostBody)
			mustEpOpen(t, e, 1, f, impl.CoGood)
			if part.number != nil {
				*part.number(&f) = 1
			} else {
				*part.list(&f) = []byte{0}
			}
			if p, ok := impl.Unseal(e.Key, 1, f); ok || len(p) != 0 || len(impl.TagInput(1, f)) != 0 {
				t.Errorf("Unseal of %v is %x, %v", f, p, ok)
			}
			mustEpOpen(t, e, 1, f, impl.CoForm)
		}
	}
}

// P9, without an epoch: each kind by both roles, with every length that a body may have.
func TestWhatIsSealedIsOpenedAsItWas(t *testing.T) {
	for _, form := range sealedForms {
		for _, role := range bothRoles {
			for body := form.leastBody; body <= form.mostBody; body++ {
				for _, plain := range [][]byte{counted(100, body), make([]byte, body), bytes.Repeat([]byte{255}, body), pattern(body)} {
					s := someSealing(form, role, body)
					s.plain = plain
					mustSealOrNot(t, s, true)
					f, _ := impl.Seal(s.key, s.role, s.sn, s.epoch, s.seq, s.kind, s.plain)
					if body >= 4 && bytes.Equal(f.Body, plain) {
						t.Errorf("%v is not hidden in %v", s, f)
					}
					if !bytes.Equal(f.Tag, impl.Tag(s.key, impl.TagInput(role, f))) || !bytes.Equal(f.Body, impl.Mix(s.key, impl.HeadOf(role, s.sn, s.epoch, s.seq), plain)) {
						t.Errorf("Seal of %v is %v", s, f)
					}
				}
			}
		}
	}
}

// mustSealAtEdges: what is right is asked for with one part another one, which is right, too, or not.
func mustSealAtEdges(t *testing.T, right sealing, edges map[int]bool, set func(s *sealing, x int)) {
	t.Helper()
	for x, may := range edges {
		s := right
		set(&s, x)
		mustSealOrNot(t, s, may)
	}
}

func TestSealsAtTheirEdges(t *testing.T) {
	for _, form := range sealedForms {
		for _, role := range bothRoles {
			right := someSealing(form, role, form.mostBody)
			mustSealAtEdges(t, right, edgesOfKey(), func(s *sealing, x int) { s.key = roomy(counted(1, x)...) })
			mustSealAtEdges(t, right, edgesOfRole(), func(s *sealing, x int) { s.role = x })
			mustSealAtEdges(t, right, edgesOfNonce(), func(s *sealing, x int) { s.sn = roomy(counted(60, x)...) })
			mustSealAtEdges(t, right, edgesOfEpoch(), func(s *sealing, x int) { s.epoch = x })
			mustSealAtEdges(t, right, edgesOfSeq(), func(s *sealing, x int) { s.seq = x })
		}
	}
}

// A text that is too long for a stream is hidden by nothing: it must not pass for an empty one.
func TestTextsAtTheirEdges(t *testing.T) {
	for _, form := range sealedForms {
		e := someEp(5, 9)
		for _, n := range []int{0, 1, 3, 4, 5, 11, 12, 13, 16, 39, 40, 41, 42, 199, 200, 201, 202, 256, 1000, impl.MaxSha, impl.MaxSha + 1} {
			may := n >= form.leastBody && n <= form.mostBody
			s := someSealing(form, 1, n)
			s.plain = roomy(s.plain...)
			mustSealOrNot(t, s, may)
			code := impl.CoForm
			if may {
				code = impl.CoGood
			}
			mustEpSeal(t, e, 1, s.sn, form.kind, s.plain, code)
		}
	}
}

func TestOtherKindsAreNotSealed(t *testing.T) {
	for _, kind := range append(wrongKinds(), 1, 2, 3) {
		for _, n := range []int{0, 1, 4, 12, 40} {
			s := someSealing(frameForm{kind: kind}, 0, n)
			mustSealOrNot(t, s, false)
			mustEpSeal(t, someEp(5, 9), 0, s.sn, kind, s.plain, impl.CoForm)
			mustEpSeal(t, someEp(5, mostSeqs), 0, s.sn, kind, s.plain, impl.CoForm)
		}
	}
}

// What was sealed is opened by who has its key, and asks for its role, alone.
func TestUnsealAtItsEdges(t *testing.T) {
	for _, form := range sealedForms {
		for _, role := range bothRoles {
			s := someSealing(form, role, form.leastBody)
			f, _ := impl.Seal(s.key, role, s.sn, s.epoch, s.seq, s.kind, s.plain)
			for n, may := range edgesOfKey() {
				key := roomy(counted(1, n)...)
				mustAskAsTold(t, key, role, f)
				if p, ok := impl.Unseal(key, role, f); ok != may || may && !bytes.Equal(p, s.plain) {
					t.Errorf("Unseal with a key of %d bytes is %x, %v", n, p, ok)
				}
			}
			for x := range edgesOfRole() {
				mustAskAsTold(t, s.key, x, f)
				if _, ok := impl.Unseal(s.key, x, f); ok != (x == role) {
					t.Errorf("Unseal of what %d sealed, as by %d, is %v", role, x, ok)
				}
			}
			for i := range s.key {
				key := slices.Clone(s.key)
				key[i] ^= 1
				mustAskAsTold(t, key, role, f)
				if p, ok := impl.Unseal(key, role, f); ok || len(p) != 0 {
					t.Errorf("Unseal with another key is %x, %v", p, ok)
				}
			}
		}
	}
}

// Keys of 31 bytes, and of 32 with a byte 0 as the last, are one key to Hmac: here the first one is none.
func TestShortKeysAreNotFilled(t *testing.T) {
	for _, form := range sealedForms {
		s := someSealing(form, 0, form.mostBody)
		for _, n := range []int{0, 1, 16, 31} {
			short := counted(1, n)
			s.key = withNoughts(short, sizeOfKey)
			f, ok := impl.Seal(s.key, 0, s.sn, s.epoch, s.seq, s.kind, s.plain)
			mustSealOrNot(t, s, true)
			for _, key := range [][]byte{short, withNoughts(s.key, 33), withNoughts(s.key, 64)} {
				if p, open := impl.Unseal(key, 0, f); open || !ok || len(p) != 0 {
					t.Errorf("Unseal with a key of %d bytes is %x, %v", len(key), p, open)
				}
				e := someEp(s.epoch, 9)
				e.Key = key
				mustEpOpen(t, e, 0, f, impl.CoForm)
				mustEpSeal(t, e, 0, s.sn, s.kind, s.plain, impl.CoForm)
			}
		}
	}
}

// wordsOf seals n words one behind the other, their kinds and lengths in turn; and says what they said.
func wordsOf(t *testing.T, e impl.Ep, role int, n int) (impl.Ep, []impl.Frame, [][]byte) {
	t.Helper()
	words, said := []impl.Frame{}, [][]byte{}
	first := e.Seq
	for i := range n {
		form := sealedForms[i%len(sealedForms)]
		plain := counted(byte(i), form.leastBody+i%(form.mostBody-form.leastBody+1))
		var f impl.Frame
		e, f = mustEpSeal(t, e, role, counted(60, 12), form.kind, plain, impl.CoGood)
		if f.Seq != first+i || e.Seq != first+i+1 || f.Epoch != e.N {
			t.Errorf("the word %d is %v, the epoch %v", i, f, e)
		}
		words, said = append(words, f), append(said, plain)
	}
	return e, words, said
}

// mustOpenOnce: of these words, in this order, each is opened as it was where it comes first, and no more.
func mustOpenOnce(t *testing.T, e impl.Ep, role int, words []impl.Frame, said [][]byte, order []int) impl.Ep {
	t.Helper()
	met := map[int]bool{}
	for _, i := range order {
		code := impl.CoGood
		if met[i] {
			code = impl.CoOld
		}
		next, plain := mustEpOpen(t, e, role, words[i], code)
		if code == impl.CoGood && (!bytes.Equal(plain, said[i]) || !impl.WinHas(next.Win, words[i].Seq)) {
			t.Errorf("the word %d is opened as %x, not %x", i, plain, said[i])
		}
		if next.Seq != e.Seq || next.N != e.N || !bytes.Equal(next.Key, e.Key) {
			t.Errorf("the word %d made %v of %v", i, next, e)
		}
		met[i] = true
		e = next
	}
	return e
}

// P9: what an epoch seals another one with its key opens as it was, once, in all orders of five words, the first three of them twice.
func TestEpochsOpenEachWordOnceInAnyOrder(t *testing.T) {
	for _, role := range bothRoles {
		for _, seq := range []int{0, 1000, mostSeqs - 2000} {
			e := someEp(3, seq)
			_, words, said := wordsOf(t, e, role, 5)
			ordersOf([]int{0, 1, 2, 3, 4}, 5, func(order []int) {
				mustOpenOnce(t, someEp(3, 77), role, words, said, append(order, order[:3]...))
			})
		}
	}
}

// P9, over more words, mixed, with doubles; the words that both roles seal with one epoch's numbers do not meet.
func TestEpochsOpenEachWordOnceMixed(t *testing.T) {
	for seed := range 6 {
		r := rand.New(rand.NewSource(int64(seed)))
		for _, role := range bothRoles {
			e := impl.EpNew(seed, counted(byte(seed), sizeOfKey))
			sender, words, said := wordsOf(t, e, role, 60)
			order := append(r.Perm(60), r.Perm(60)...)
			opened := mustOpenOnce(t, e, role, words, said, order)
			if !slices.Equal(impl.WinList(opened.Win), counting(60)) || sender.Win.Top != -1 {
				t.Errorf("%v were taken", impl.WinList(opened.Win))
			}
			mustOpenOnce(t, sender, role, words, said, append(counting(60), r.Perm(60)...))
			for _, f := range words {
				mustEpOpen(t, e, 1-role, f, impl.CoTag)
			}
		}
	}
}

// P9, where words are lost, and late: what is too old by a window is taken no more, whether it was or not.
func TestLateWords(t *testing.T) {
	form := sealedForms[0]
	for _, top := range []int{impl.WinLen - 1, impl.WinLen, 5000, dataSeqs, mostSeqs - 1} {
		e := someEp(3, 0)
		e, _ = mustEpOpen(t, e, 0, sealedAs(e, 0, top, form, 5), impl.CoGood)
		for _, late := range []int{1, 2, 500, impl.WinLen - 2, impl.WinLen - 1, impl.WinLen, impl.WinLen + 1, 2 * impl.WinLen} {
			if late > top {
				continue
			}
			f := sealedAs(e, 0, top-late, form, 40)
			if late >= impl.WinLen {
				mustEpOpen(t, e, 0, f, impl.CoOld)
				continue
			}
			next, plain := mustEpOpen(t, e, 0, f, impl.CoGood)
			if !bytes.Equal(plain, counted(100, 40)) || next.Win.Top != top {
				t.Errorf("late by %d it is %x, the epoch %v", late, plain, next)
			}
			mustEpOpen(t, next, 0, f, impl.CoOld)
		}
	}
}

// P9, its other half: with any one byte of its tag another one a word is refused, and leaves room for itself as it was.
func TestWithAByteOfItsTagTurnedItIsNotOpened(t *testing.T) {
	for _, form := range sealedForms {
		for _, role := range bothRoles {
			e := someEp(8, 20)
			sender, f := mustEpSeal(t, e, role, counted(60, 12), form.kind, counted(7, form.mostBody), impl.CoGood)
			for i := range sizeOfTag {
				for x := 1; x < 256; x++ {
					bent := f
					bent.Tag = slices.Clone(f.Tag)
					bent.Tag[i] ^= byte(x)
					if p, ok := impl.Unseal(e.Key, role, bent); ok || len(p) != 0 {
						t.Errorf("with the byte %d of its tag Xor %d it is %x, %v", i, x, p, ok)
					}
					next, p, code := impl.EpOpen(e, role, bent)
					if code != impl.CoTag || len(p) != 0 || !sameEps(next, e) {
						t.Errorf("with the byte %d of its tag Xor %d it is %v, %x, %d", i, x, next, p, code)
					}
				}
			}
			mustEpOpen(t, e, role, f, impl.CoGood)
			mustEpOpen(t, sender, role, f, impl.CoGood)
		}
	}
}

// What bytes the tag is of: each of them counts, the tag's own too.
func TestEachByteOfASealedFrameCounts(t *testing.T) {
	for _, form := range sealedForms {
		e := someEp(5, 9)
		whole := frameBytesOf(sealedAs(e, 1, 9, form, form.mostBody))
		for i := range whole {
			for _, x := range []byte{1, 2, 128, 255} {
				b := slices.Clone(whole)
				b[i] ^= x
				f, _ := frameOfBytes(b)
				mustAskAsTold(t, e.Key, 1, f)
				if p, ok := impl.Unseal(e.Key, 1, f); ok || len(p) != 0 {
					t.Errorf("with the byte %d Xor %d it is opened as %x", i, x, p)
				}
				next, p, code := impl.EpOpen(e, 1, f)
				if code != impl.CoForm && code != impl.CoTag || len(p) != 0 || !sameEps(next, e) {
					t.Errorf("with the byte %d Xor %d it is %v, %x, %d", i, x, next, p, code)
				}
			}
		}
	}
}

func TestTagsAreOfTheKind(t *testing.T) {
	e := someEp(5, 9)
	for _, form := range sealedForms {
		f := sealedAs(e, 0, 9, form, form.mostBody)
		for _, other := range sealedForms {
			f.Kind = other.kind
			if form.kind != other.kind && frameIsRight(f) {
				mustEpOpen(t, e, 0, f, impl.CoTag)
			}
		}
	}
}

func TestOtherEpochsRolesAndKeys(t *testing.T) {
	for _, form := range sealedForms {
		e := someEp(5, 9)
		for _, role := range bothRoles {
			f := sealedAs(e, role, 9, form, form.leastBody)
			mustEpOpen(t, e, role, f, impl.CoGood)
			mustEpOpen(t, e, 1-role, f, impl.CoTag)
			for _, n := range []int{0, 4, 6, 5 + 256, 4294967295} {
				mustEpOpen(t, impl.Ep{N: n, Key: e.Key, Win: e.Win}, role, f, impl.CoForm)
				told := f
				told.Epoch = n
				mustEpOpen(t, impl.Ep{N: n, Key: e.Key, Win: e.Win}, role, told, impl.CoTag)
			}
			mustEpOpen(t, impl.Ep{N: 5, Key: counted(2, sizeOfKey), Win: e.Win}, role, f, impl.CoTag)
			mustEpOpen(t, impl.Ep{N: 5, Key: make([]byte, sizeOfKey), Win: e.Win}, role, f, impl.CoTag)
		}
	}
}

func TestNewEpochs(t *testing.T) {
	for n, mayN := range edgesOfEpoch() {
		for k, mayKey := range edgesOfKey() {
			want := impl.Ep{}
			if mayN && mayKey {
				want = impl.Ep{N: n, Key: counted(1, k), Seq: 0, Win: winFrom(-1)}
			}
			got := impl.EpNew(n, roomy(counted(1, k)...))
			if !sameEps(got, want) || impl.EpOk(got) != (mayN && mayKey) {
				t.Errorf("EpNew of %d and %d bytes is %v, not %v", n, k, got, want)
			}
		}
	}
}

// seqsOfEpochs: which number may be sealed next; MaxSeq itself is right, though none is left then.
func seqsOfEpochs() map[int]bool {
	m := edgesOfSeq()
	m[mostSeqs] = true
	return m
}

func TestEpochsAtTheirEdges(t *testing.T) {
	wins := rightWins()
	for _, w := range wins {
		e := impl.Ep{N: 1, Key: counted(1, sizeOfKey), Seq: 3, Win: w}
		if !impl.EpOk(e) || !epIsRight(e) {
			t.Errorf("%v is not right", e)
		}
	}
	for n, mayN := range edgesOfEpoch() {
		for k, mayKey := range edgesOfKey() {
			for seq, maySeq := range seqsOfEpochs() {
				e := impl.Ep{N: n, Key: roomy(counted(1, k)...), Seq: seq, Win: wins[(len(wins)+n%7+k)%len(wins)]}
				if got := impl.EpOk(e); got != (mayN && mayKey && maySeq) || got != epIsRight(e) {
					t.Errorf("EpOk of %v is %v", e, got)
				}
			}
		}
	}
}

// wrongEps: each is right but for one part.
func wrongEps() []impl.Ep {
	l := []impl.Ep{{}, {Key: counted(1, sizeOfKey)}, {Win: winFrom(-1)}}
	for n, may := range edgesOfEpoch() {
		if e := someEp(5, 9); !may {
			e.N = n
			l = append(l, e)
		}
	}
	for k, may := range edgesOfKey() {
		if e := someEp(5, 9, 4); !may && k <= 65 {
			e.Key = counted(1, k)
			l = append(l, e)
		}
	}
	for seq, may := range seqsOfEpochs() {
		if !may {
			l = append(l, someEp(5, seq))
		}
	}
	for _, w := range winsToWatch() {
		if e := someEp(5, 9); !winIsRight(w) {
			e.Win = impl.Win{Top: w.Top, Bits: slices.Clone(w.Bits)}
			l = append(l, e)
		}
	}
	return l
}

// Nothing is sealed or opened by an epoch that is wrong, whatever else would fit; and it comes back as it was.
func TestWrongEpochs(t *testing.T) {
	asked := wrongEps()
	if len(asked) < 20 {
		t.Errorf("there are %d", len(asked))
	}
	for _, e := range asked {
		if impl.EpOk(e) || epIsRight(e) {
			t.Errorf("%v is right", e)
		}
		for _, form := range sealedForms {
			for _, role := range bothRoles {
				mustEpSeal(t, e, role, counted(60, 12), form.kind, counted(100, form.mostBody), impl.CoForm)
				f := sealedAs(someEp(5, 9), role, 9, form, form.mostBody)
				mustEpOpen(t, e, role, f, impl.CoForm)
				if e.N >= 0 && e.N <= impl.MaxEpoch && len(e.Key) == sizeOfKey {
					mustEpOpen(t, e, role, sealedAs(e, role, 9, form, form.mostBody), impl.CoForm)
				}
				f.Epoch = e.N
				mustEpOpen(t, e, role, f, impl.CoForm)
			}
		}
		mustEpSeal(t, e, 0, nil, 0, nil, impl.CoForm)
		mustEpOpen(t, e, 0, impl.Frame{}, impl.CoForm)
	}
}

// The last numbers are left for words that make new keys.
func TestEpochsAtTheEndOfTheirNumbers(t *testing.T) {
	for _, form := range sealedForms {
		for _, role := range bothRoles {
			for seq, code := range map[int]int{
				-1: impl.CoForm, 0: impl.CoGood, dataSeqs - 1: impl.CoGood, dataSeqs: impl.CoGood, dataSeqs + 1: impl.CoGood, mostSeqs - 1: impl.CoGood, mostSeqs: impl.CoSpent, mostSeqs + 1: impl.CoForm, math.MaxInt: impl.CoForm, math.MinInt: impl.CoForm, math.MaxInt - 1: impl.CoForm,
			} {
				if form.kind == impl.KData && seq >= dataSeqs && seq <= mostSeqs {
					code = impl.CoRekey
				}
				e, f := mustEpSeal(t, someEp(5, seq), role, counted(60, 12), form.kind, counted(100, form.leastBody), code)
				if code == impl.CoGood && (e.Seq != seq+1 || f.Seq != seq || !impl.EpOk(e)) {
					t.Errorf("with %d next it is %v, %v", seq, e, f)
				}
			}
		}
	}
}

func TestTheLastWordsOfAnEpoch(t *testing.T) {
	sn, rekey := counted(60, 12), []byte{0, 0, 0, 6}
	e := someEp(5, dataSeqs-1)
	e, last := mustEpSeal(t, e, 0, sn, impl.KData, counted(1, 40), impl.CoGood)
	o, _ := mustEpOpen(t, someEp(5, 0), 0, last, impl.CoGood)
	for i := range mostSeqs - dataSeqs {
		watched := i < 2 || i > 997
		if watched {
			mustEpSeal(t, e, 0, sn, impl.KData, nil, impl.CoRekey)
		}
		next, f, code := impl.EpSeal(e, 0, sn, impl.KRekey, rekey)
		if code != impl.CoGood || f.Seq != dataSeqs+i {
			t.Fatalf("the word %d is %v, %d", i, f, code)
		}
		e = next
		if watched {
			o, _ = mustEpOpen(t, o, 0, f, impl.CoGood)
		}
	}
	mustEpSeal(t, e, 0, sn, impl.KData, nil, impl.CoRekey)
	for _, form := range sealedForms[1:] {
		mustEpSeal(t, e, 0, sn, form.kind, counted(1, form.leastBody), impl.CoSpent)
	}
	if e.Seq != mostSeqs || !impl.EpOk(e) || o.Win.Top != mostSeqs-1 {
		t.Errorf("in the end it is %v, the other one %v", e, o)
	}
}

// Which code comes first in sealing: CoForm, then CoRekey, then CoSpent.
func TestCodesOfSealingInTheirOrder(t *testing.T) {
	sn := counted(60, 12)
	for _, seq := range []int{0, dataSeqs, mostSeqs - 1, mostSeqs} {
		e := someEp(5, seq)
		for role, may := range edgesOfRole() {
			if !may {
				mustEpSeal(t, e, role, sn, impl.KData, nil, impl.CoForm)
				mustEpSeal(t, e, role, sn, impl.KRekey, counted(1, 4), impl.CoForm)
			}
		}
		for n, may := range edgesOfNonce() {
			if !may {
				mustEpSeal(t, e, 0, counted(60, n), impl.KData, nil, impl.CoForm)
				mustEpSeal(t, e, 0, counted(60, n), impl.KRekey, counted(1, 4), impl.CoForm)
			}
		}
		for _, form := range sealedForms {
			mustEpSeal(t, e, 1, sn, form.kind, counted(1, form.mostBody+1), impl.CoForm)
			if form.leastBody > 0 {
				mustEpSeal(t, e, 1, sn, form.kind, counted(1, form.leastBody-1), impl.CoForm)
			}
			wrong := e
			wrong.N = 4294967296
			mustEpSeal(t, wrong, 1, sn, form.kind, counted(1, form.mostBody), impl.CoForm)
			wrong = e
			wrong.Win.Top = 7
			mustEpSeal(t, wrong, 1, sn, form.kind, counted(1, form.mostBody), impl.CoForm)
		}
	}
	mustEpSeal(t, someEp(5, mostSeqs), 0, sn, impl.KData, nil, impl.CoRekey)
	mustEpSeal(t, someEp(5, mostSeqs), 0, sn, impl.KData, counted(1, 40), impl.CoRekey)
	mustEpSeal(t, someEp(5, mostSeqs), 0, sn, impl.KResponse, counted(1, 12), impl.CoSpent)
}

// Which code comes first in opening: CoForm, then CoOld, then CoTag.
func TestCodesOfOpeningInTheirOrder(t *testing.T) {
	for _, form := range sealedForms {
		e := someEp(5, 9, 3, 2000)
		for _, seq := range []int{3, 2000, 976, 0} {
			f := sealedAs(e, 1, seq, form, form.leastBody)
			mustEpOpen(t, e, 1, f, impl.CoOld)
			mustEpOpen(t, e, 0, f, impl.CoOld)
			bent := f
			bent.Tag = make([]byte, sizeOfTag)
			mustEpOpen(t, e, 1, bent, impl.CoOld)
			for role, may := range edgesOfRole() {
				if !may {
					mustEpOpen(t, e, role, f, impl.CoForm)
				}
			}
			other := f
			other.Epoch = 6
			mustEpOpen(t, e, 1, other, impl.CoForm)
			long := f
			long.Body = counted(1, form.mostBody+1)
			mustEpOpen(t, e, 1, long, impl.CoForm)
			named := f
			named.Tick = 1
			mustEpOpen(t, e, 1, named, impl.CoForm)
		}
		for _, seq := range []int{977, 1999, 2001, mostSeqs - 1} {
			f := sealedAs(e, 1, seq, form, form.leastBody)
			mustEpOpen(t, e, 1, f, impl.CoGood)
			mustEpOpen(t, e, 0, f, impl.CoTag)
			mustEpOpen(t, e, 2, f, impl.CoForm)
			f.Seq = mostSeqs
			mustEpOpen(t, e, 1, f, impl.CoForm)
		}
	}
}

// The greatest and the least number in the place of each one that is handed in.
func TestGreatestAndLeastNumbers(t *testing.T) {
	sn := counted(60, 12)
	for _, x := range []int{math.MaxInt, math.MaxInt - 1, math.MinInt, math.MinInt + 1} {
		mustHeadAsTold(t, x, sn, x, x)
		for _, form := range sealedForms {
			f := sealedAs(someEp(5, 9), 0, 9, form, form.mostBody)
			plain := counted(100, form.mostBody)
			for _, s := range []sealing{{f.Tag, x, sn, x, x, x, plain}, {counted(1, 32), x, sn, 5, 9, form.kind, plain}, {counted(1, 32), 0, sn, x, 9, form.kind, plain}, {counted(1, 32), 0, sn, 5, x, form.kind, plain}, {counted(1, 32), 0, sn, 5, 9, x, plain}} {
				mustSealOrNot(t, s, false)
			}
			mustEpSeal(t, someEp(5, 9), x, sn, form.kind, plain, impl.CoForm)
			mustEpSeal(t, someEp(5, 9), 0, sn, x, plain, impl.CoForm)
			mustEpOpen(t, someEp(5, 9), x, f, impl.CoForm)
			for _, part := range frameParts {
				if part.number != nil {
					told := f
					*part.number(&told) = x
					mustEpOpen(t, someEp(5, 9), 0, told, impl.CoForm)
				}
			}
			f.Kind = x
			mustEpOpen(t, someEp(5, 9), 0, f, impl.CoForm)
			for _, e := range []impl.Ep{someEp(x, 9), someEp(5, x), {N: 5, Key: counted(1, 32), Win: winFrom(x)}, {N: 5, Key: counted(1, 32), Win: impl.Win{Top: -1, Bits: append([]int{x}, make([]int, 31)...)}}} {
				mustEpSeal(t, e, 0, sn, form.kind, plain, impl.CoForm)
				mustEpOpen(t, e, 0, sealedAs(someEp(5, 9), 0, 9, form, form.mostBody), impl.CoForm)
			}
		}
	}
}

// A recordCall is what the chapter's functions are asked for; a recordAnswer all that they answer of it.
type recordCall struct {
	e     impl.Ep
	role  int
	sn    []byte
	kind  int
	plain []byte
	f     impl.Frame
}

type recordAnswer struct {
	head, in, opened  []byte
	sealed            impl.Frame
	made, after, then impl.Ep
	next              impl.Frame
	text              []byte
	codes             [4]int
}

func countOf(b bool) int {
	if b {
		return 1
	}
	return 0
}

func answerOf(c recordCall) recordAnswer {
	var a recordAnswer
	var seals, opens bool
	a.head = impl.HeadOf(c.role, c.sn, c.e.N, c.e.Seq)
	a.in = impl.TagInput(c.role, c.f)
	a.sealed, seals = impl.Seal(c.e.Key, c.role, c.sn, c.e.N, c.e.Seq, c.kind, c.plain)
	a.opened, opens = impl.Unseal(c.e.Key, c.role, c.f)
	a.made = impl.EpNew(c.e.N, c.e.Key)
	impl.EpOk(c.e)
	a.after, a.next, a.codes[0] = impl.EpSeal(c.e, c.role, c.sn, c.kind, c.plain)
	a.then, a.text, a.codes[1] = impl.EpOpen(c.e, c.role, c.f)
	a.codes[2], a.codes[3] = countOf(seals), countOf(opens)
	return a
}

// toldOf: the same, as the chapter has it.
func toldOf(c recordCall) recordAnswer {
	var a recordAnswer
	var seals, opens bool
	a.head = headOf(c.role, c.sn, c.e.N, c.e.Seq)
	a.in = tagInputOf(c.role, c.f)
	a.sealed, seals = sealOf(sealing{c.e.Key, c.role, c.sn, c.e.N, c.e.Seq, c.kind, c.plain})
	a.opened, opens = unsealOf(c.e.Key, c.role, c.f)
	if c.e.N >= 0 && c.e.N <= impl.MaxEpoch && len(c.e.Key) == sizeOfKey {
		a.made = impl.Ep{N: c.e.N, Key: c.e.Key, Win: winFrom(-1)}
	}
	a.after, a.next, a.codes[0] = epSealOf(c.e, c.role, c.sn, c.kind, c.plain)
	a.then, a.text, a.codes[1] = epOpenOf(c.e, c.role, c.f)
	a.codes[2], a.codes[3] = countOf(seals), countOf(opens)
	return a
}

// byteLists, intLists: every list of an answer.
func (a *recordAnswer) byteLists() []*[]byte {
	l := []*[]byte{&a.head, &a.in, &a.opened, &a.text, &a.made.Key, &a.after.Key, &a.then.Key}
	for _, part := range frameParts {
		if part.list != nil {
			l = append(l, part.list(&a.sealed), part.list(&a.next))
		}
	}
	return l
}

func (a *recordAnswer) intLists() []*[]int {
	return []*[]int{&a.made.Win.Bits, &a.after.Win.Bits, &a.then.Win.Bits}
}

func sameRecordAnswers(a recordAnswer, b recordAnswer) bool {
	same := a.codes == b.codes && sameFrames(a.sealed, b.sealed) && sameFrames(a.next, b.next) && sameEps(a.made, b.made) && sameEps(a.after, b.after) && sameEps(a.then, b.then)
	other := b.byteLists()
	for i, l := range a.byteLists() {
		same = same && bytes.Equal(*l, *other[i])
	}
	return same
}

// cloneCall: the same, each list in memory of its own, with spare room.
func cloneCall(c recordCall) recordCall {
	c.e.Key, c.e.Win.Bits = roomy(c.e.Key...), roomyInts(c.e.Win.Bits...)
	c.sn, c.plain = roomy(c.sn...), roomy(c.plain...)
	for _, part := range frameParts {
		if part.list != nil {
			*part.list(&c.f) = roomy(*part.list(&c.f)...)
		}
	}
	return c
}

func scribbleCall(c recordCall) {
	scribble(c.e.Key)
	scribbleInts(c.e.Win.Bits)
	scribble(c.sn)
	scribble(c.plain)
	scribbleFrame(c.f)
}

func mustBeUntouchedCall(t *testing.T, what string, c recordCall, was recordCall) {
	t.Helper()
	mustBeUntouched(t, "the key, "+what, c.e.Key, was.e.Key...)
	mustBeUntouchedInts(t, "the window, "+what, c.e.Win.Bits, was.e.Win.Bits...)
	mustBeUntouched(t, "the Sn, "+what, c.sn, was.sn...)
	mustBeUntouched(t, "the text, "+what, c.plain, was.plain...)
	mustBeUntouchedFrame(t, what, c.f, was.f)
}

// callsToWatch: such as each code answers, in sealing and in opening, of each sealed kind, and some that are wrong in all.
func callsToWatch() []recordCall {
	l := []recordCall{{}, {e: impl.Ep{N: -1, Key: counted(1, 31), Seq: -1, Win: impl.Win{Top: 4, Bits: []int{7, 7, 7}}}, role: 2, sn: counted(1, 13), kind: 3, plain: counted(1, 201), f: impl.Frame{Kind: 9, Body: counted(1, 50), Cookie: counted(1, 3)}}}
	for _, form := range sealedForms {
		for _, role := range bothRoles {
			for _, seq := range []int{0, 9, dataSeqs, mostSeqs, mostSeqs + 1} {
				e := someEp(5, seq, 1, 3, 2000)
				for _, number := range []int{3, 976, 1999, 2001, 1 << 40} {
					f := sealedAs(e, role, number, form, form.mostBody)
					c := recordCall{e, role, counted(60, 12), form.kind, counted(90, form.leastBody), f}
					bent := c
					bent.f.Tag = counted(1, sizeOfTag)
					other := c
					other.f.Epoch, other.sn = 6, counted(60, 11)
					l = append(l, c, bent, other)
				}
			}
		}
	}
	return l
}

func TestCallsToWatchHaveEachCode(t *testing.T) {
	met := map[[2]int]int{}
	for _, c := range callsToWatch() {
		a := answerOf(cloneCall(c))
		if want := toldOf(c); !sameRecordAnswers(a, want) {
			t.Errorf("of %v it is %v, not %v", c, a, want)
		}
		met[[2]int{0, a.codes[0]}]++
		met[[2]int{1, a.codes[1]}]++
	}
	for _, code := range []int{impl.CoGood, impl.CoForm, impl.CoRekey, impl.CoSpent} {
		if met[[2]int{0, code}] == 0 {
			t.Errorf("nothing is sealed with the code %d", code)
		}
	}
	for _, code := range []int{impl.CoGood, impl.CoForm, impl.CoOld, impl.CoTag} {
		if met[[2]int{1, code}] == 0 {
			t.Errorf("nothing is opened with the code %d", code)
		}
	}
}

func TestRecordsWriteIntoNoArgumentAndShareNone(t *testing.T) {
	for _, was := range callsToWatch() {
		want := toldOf(was)
		c := cloneCall(was)
		first, second := answerOf(c), answerOf(c)
		mustBeUntouchedCall(t, "asked", c, was)
		for _, l := range first.byteLists() {
			scribble(*l)
		}
		for _, l := range first.intLists() {
			scribbleInts(*l)
		}
		mustBeUntouchedCall(t, "with its answers written over", c, was)
		scribbleCall(c)
		if !sameRecordAnswers(second, want) {
			t.Errorf("with its arguments written over, the answer of %v is %v, not %v", was, second, want)
		}
	}
}

// Of one answer each list is written over alone, its spare room too: all others stay as they were.
func TestListsOfRecordsShareNone(t *testing.T) {
	for _, was := range callsToWatch() {
		want := toldOf(was)
		for i := range want.byteLists() {
			a := answerOf(cloneCall(was))
			scribble(*a.byteLists()[i])
			*a.byteLists()[i] = *want.byteLists()[i]
			if !sameRecordAnswers(a, want) {
				t.Errorf("with its list %d written over, the answer of %v is %v", i, was, a)
			}
		}
		for i := range want.intLists() {
			a := answerOf(cloneCall(was))
			scribbleInts(*a.intLists()[i])
			*a.intLists()[i] = *want.intLists()[i]
			if !sameRecordAnswers(a, want) {
				t.Errorf("with its words %d written over, the answer of %v is %v", i, was, a)
			}
		}
	}
}

// Lists that are one, and lists that stand one in the other's spare room, are like any others.
func TestRecordsOfArgumentsThatShareMemory(t *testing.T) {
	whole := pattern(200)
	for _, s := range []sealing{
		{whole[:32], 0, whole[:12], 5, 9, impl.KData, whole[:40]},
		{whole[:32], 1, whole[32:44], 5, 9, impl.KData, whole[44:84]},
		{whole[44:76], 1, whole[32:44], 5, 9, impl.KChallenge, whole[20:32]},
		{whole[3:35], 0, whole[1:13], 5, 9, impl.KRekey, whole[9:13]},
	} {
		mustSealOrNot(t, s, true)
		e := impl.Ep{N: s.epoch, Key: s.key, Seq: s.seq, Win: winFrom(-1)}
		_, f := mustEpSeal(t, e, s.role, s.sn, s.kind, s.plain, impl.CoGood)
		mustEpOpen(t, e, s.role, f, impl.CoGood)
		f.Sn = s.sn
		mustEpOpen(t, e, s.role, f, impl.CoGood)
		mustEpOpen(t, e, s.role, impl.Frame{Kind: impl.KData, Sn: whole[:12], Epoch: 5, Body: whole[:16], Tag: whole[:16]}, impl.CoTag)
		if !bytes.Equal(whole, pattern(200)) {
			t.Errorf("of %v they were written into", s)
		}
	}
}

// An epoch that is handed in is as it was: what it sealed, or opened, it seals, or opens, again.
func TestRecordsKeepNothing(t *testing.T) {
	sn := counted(60, 12)
	for _, form := range sealedForms {
		e, was := someEp(5, 9, 3, 2000), someEp(5, 9, 3, 2000)
		plain := counted(100, form.mostBody)
		for range 3 {
			mustEpSeal(t, e, 2, sn, form.kind, plain, impl.CoForm)
			_, f := mustEpSeal(t, e, 0, sn, form.kind, plain, impl.CoGood)
			mustEpOpen(t, e, 0, f, impl.CoOld)
			mustEpOpen(t, e, 1, sealedAs(e, 0, 1999, form, form.mostBody), impl.CoTag)
			next, _ := mustEpOpen(t, e, 0, sealedAs(e, 0, 1999, form, form.mostBody), impl.CoGood)
			scribble(next.Key)
			scribbleInts(next.Win.Bits)
			scribbleFrame(f)
			mustSealOrNot(t, someSealing(form, 0, 41), false)
			mustSealOrNot(t, someSealing(form, 0, form.mostBody), true)
			if !sameEps(e, was) {
				t.Errorf("the epoch is %v now, was %v", e, was)
			}
		}
	}
}
