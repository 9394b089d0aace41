package tests

import (
	"bytes"
	"encoding/hex"
	"math"
	"slices"
	"strings"
	"testing"

	"loop.example/g00478/impl"
)

const (
	kindsInAll     = 8
	noughtsOfInit  = 20
	mostBytesOfAny = 79
)

// A framePart is one of a frame's parts: a number of so many bytes, with its limits, or a list of so many bytes.
type framePart struct {
	name        string
	number      func(f *impl.Frame) *int
	list        func(f *impl.Frame) *[]byte
	size        int
	least, most int
	first       byte
}

var frameParts = []framePart{
	{name: "Id", number: func(f *impl.Frame) *int { return &f.Id }, size: 1, least: 1, most: 9},
	{name: "Tick", number: func(f *impl.Frame) *int { return &f.Tick }, size: 4, least: 0, most: 1000000},
	{name: "Epoch", number: func(f *impl.Frame) *int { return &f.Epoch }, size: 4, least: 0, most: 4294967295},
	{name: "Seq", number: func(f *impl.Frame) *int { return &f.Seq }, size: 6, least: 0, most: 281474976710655},
	{name: "Cn", list: func(f *impl.Frame) *[]byte { return &f.Cn }, size: 12, first: 10},
	{name: "Sn", list: func(f *impl.Frame) *[]byte { return &f.Sn }, size: 12, first: 50},
	{name: "Cookie", list: func(f *impl.Frame) *[]byte { return &f.Cookie }, size: 16, first: 90},
	{name: "Proof", list: func(f *impl.Frame) *[]byte { return &f.Proof }, size: 16, first: 130},
	{name: "Tag", list: func(f *impl.Frame) *[]byte { return &f.Tag }, size: 16, first: 170},
	{name: "Body", list: func(f *impl.Frame) *[]byte { return &f.Body }, first: 210},
}

// A frameForm is what the chapter says of a kind: its parts, in the order of its bytes, and how long its body may be.
type frameForm struct {
	kind                int
	name                string
	parts               []string
	noughts             int
	leastBody, mostBody int
}

var frameForms = []frameForm{
	{kind: 1, name: "init", parts: strings.Fields("Id Cn"), noughts: noughtsOfInit},
	{kind: 2, name: "cookie", parts: strings.Fields("Cn Sn Tick Cookie")},
	{kind: 3, name: "finish", parts: strings.Fields("Id Cn Sn Tick Cookie Proof")},
	{kind: 4, name: "data", parts: strings.Fields("Sn Epoch Seq Tag Body"), leastBody: 0, mostBody: 40},
	{kind: 5, name: "challenge", parts: strings.Fields("Sn Epoch Seq Tag Body"), leastBody: 12, mostBody: 12},
	{kind: 6, name: "response", parts: strings.Fields("Sn Epoch Seq Tag Body"), leastBody: 12, mostBody: 12},
	{kind: 7, name: "rekey", parts: strings.Fields("Sn Epoch Seq Tag Body"), leastBody: 4, mostBody: 4},
	{kind: 8, name: "rekeyack", parts: strings.Fields("Sn Epoch Seq Tag Body"), leastBody: 4, mostBody: 4},
}

func formOf(kind int) (frameForm, bool) {
	for _, form := range frameForms {
		if form.kind == kind {
			return form, true
		}
	}
	return frameForm{}, false
}

func (form frameForm) names(part framePart) bool {
	return slices.Contains(form.parts, part.name)
}

func (form frameForm) takesLength(part framePart, n int) bool {
	if part.name == "Body" {
		return n >= form.leastBody && n <= form.mostBody
	}
	return n == part.size
}

// inOrder: the parts of a form, as its bytes have them.
func (form frameForm) inOrder() []framePart {
	l := []framePart{}
	for _, name := range form.parts {
		l = append(l, frameParts[slices.IndexFunc(frameParts, func(p framePart) bool { return p.name == name })])
	}
	return l
}

// frameIsRight: what the chapter says of a frame, part by part.
func frameIsRight(f impl.Frame) bool {
	form, ok := formOf(f.Kind)
	if !ok {
		return false
	}
	for _, part := range frameParts {
		switch {
		case part.number != nil && form.names(part):
			ok = ok && *part.number(&f) >= part.least && *part.number(&f) <= part.most
		case part.number != nil:
			ok = ok && *part.number(&f) == 0
		case form.names(part):
			ok = ok && form.takesLength(part, len(*part.list(&f)))
		default:
			ok = ok && len(*part.list(&f)) == 0
		}
	}
	return ok
}

// frameBytesOf: the bytes of a frame that is right.
func frameBytesOf(f impl.Frame) []byte {
	form, _ := formOf(f.Kind)
	b := []byte{byte(form.kind)}
	for _, part := range form.inOrder() {
		if part.list != nil {
			b = append(b, *part.list(&f)...)
			continue
		}
		for i := part.size - 1; i >= 0; i-- {
			b = append(b, byte(*part.number(&f)>>(8*i)))
		}
	}
	return append(b, make([]byte, form.noughts)...)
}

// frameOfBytes: which frame bytes are of, told part by part from their beginning.
func frameOfBytes(b []byte) (impl.Frame, bool) {
	if len(b) == 0 {
		return impl.Frame{}, false
	}
	form, ok := formOf(int(b[0]))
	if !ok {
		return impl.Frame{}, false
	}
	f := impl.Frame{Kind: form.kind}
	left := b[1:]
	for _, part := range form.inOrder() {
		n := part.size
		if part.name == "Body" {
			n = len(left)
		}
		if len(left) < n {
			return impl.Frame{}, false
		}
		if part.list != nil {
			*part.list(&f) = slices.Clone(left[:n])
		} else {
			for _, x := range left[:n] {
				*part.number(&f) = *part.number(&f)*256 + int(x)
			}
		}
		left = left[n:]
	}
	if !frameIsRight(f) || !bytes.Equal(left, make([]byte, form.noughts)) {
		return impl.Frame{}, false
	}
	return f, true
}

func sameFrames(a impl.Frame, b impl.Frame) bool {
	same := a.Kind == b.Kind
	for _, part := range frameParts {
		if part.list != nil {
			same = same && bytes.Equal(*part.list(&a), *part.list(&b))
		} else {
			same = same && *part.number(&a) == *part.number(&b)
		}
	}
	return same
}

// someFrame: a right one of this kind, every list another one, with a body of so many bytes (where the kind has one).
func someFrame(form frameForm, body int) impl.Frame {
	some := impl.Frame{Id: 7, Tick: 0x0a0b0c, Epoch: 0xf1f2f3f4, Seq: 0x010203040506}
	f := impl.Frame{Kind: form.kind}
	for _, part := range form.inOrder() {
		switch {
		case part.number != nil:
			*part.number(&f) = *part.number(&some)
		case part.name == "Body":
			*part.list(&f) = counted(part.first, body)
		default:
			*part.list(&f) = counted(part.first, part.size)
		}
	}
	return f
}

// rightFrames: of each kind, with each of its numbers at and near its limits, with each body that it may have, and with lists of bytes 0 and 255 alone.
func rightFrames() []impl.Frame {
	l := []impl.Frame{}
	for _, form := range frameForms {
		for body := form.leastBody; body <= form.mostBody; body++ {
			l = append(l, someFrame(form, body))
		}
		for _, part := range form.inOrder() {
			f := someFrame(form, form.mostBody)
			if part.number != nil {
				for _, n := range []int{part.least, part.least + 1, (part.least + part.most) / 2, 3, part.most - 1, part.most} {
					*part.number(&f) = n
					l = append(l, f)
				}
				continue
			}
			for _, x := range []byte{0, 255} {
				*part.list(&f) = bytes.Repeat([]byte{x}, len(*part.list(&f)))
				l = append(l, f)
			}
		}
		least, most := someFrame(form, form.leastBody), someFrame(form, form.mostBody)
		for _, part := range form.inOrder() {
			if part.number != nil {
				*part.number(&least), *part.number(&most) = part.least, part.most
			} else {
				*part.list(&least) = make([]byte, len(*part.list(&least)))
				*part.list(&most) = bytes.Repeat([]byte{255}, len(*part.list(&most)))
			}
		}
		l = append(l, least, most)
	}
	return l
}

// mustPutFrame: it is right, its bytes are those, and it comes back of them.
func mustPutFrame(t *testing.T, f impl.Frame, want []byte) {
	t.Helper()
	if !impl.FrameOk(f) {
		t.Errorf("%v is not right", f)
	}
	if got := impl.PutFrame(f); !bytes.Equal(got, want) {
		t.Errorf("PutFrame of %v is %x, not %x", f, got, want)
	}
	if got := impl.SizeOf(f); got != len(want) {
		t.Errorf("SizeOf of %v is %d, not %d", f, got, len(want))
	}
	mustGetFrame(t, want, f)
}

func mustNotPutFrame(t *testing.T, f impl.Frame) {
	t.Helper()
	if impl.FrameOk(f) {
		t.Errorf("%v is right", f)
	}
	if got := impl.PutFrame(f); len(got) != 0 {
		t.Errorf("PutFrame of %v is %x", f, got)
	}
	if got := impl.SizeOf(f); got != 0 {
		t.Errorf("SizeOf of %v is %d", f, got)
	}
}

// mustPutAsTold: by what frameIsRight and frameBytesOf say of the same frame.
func mustPutAsTold(t *testing.T, f impl.Frame) {
	t.Helper()
	if frameIsRight(f) {
		mustPutFrame(t, f, frameBytesOf(f))
	} else {
		mustNotPutFrame(t, f)
	}
}

func mustGetFrame(t *testing.T, b []byte, want impl.Frame) {
	t.Helper()
	if f, ok := impl.GetFrame(b); !sameFrames(f, want) || !ok {
		t.Errorf("GetFrame of %x is %v, %v, not %v", b, f, ok, want)
	}
}

func mustNotGetFrame(t *testing.T, b []byte) {
	t.Helper()
	if f, ok := impl.GetFrame(b); !sameFrames(f, impl.Frame{}) || ok {
		t.Errorf("GetFrame of %x is %v, %v", b, f, ok)
	}
}

// mustReadFrameAsTold: by what frameOfBytes says of the same bytes; and what is read is right, and has these bytes again.
func mustReadFrameAsTold(t *testing.T, b []byte) {
	t.Helper()
	want, ok := frameOfBytes(b)
	if !ok {
		mustNotGetFrame(t, b)
		return
	}
	mustGetFrame(t, b, want)
	f, _ := impl.GetFrame(b)
	if back := impl.PutFrame(f); !impl.FrameOk(f) || !bytes.Equal(back, b) {
		t.Errorf("%x comes back of its frame as %x", b, back)
	}
}

func TestLimitsOfFrames(t *testing.T) {
	if impl.NonceLen != 12 || impl.MaxPlain != 40 || impl.MaxId != 9 || impl.MaxTime != 1000000 || impl.MaxEpoch != 4294967295 || impl.MaxSeq != 281474976710656 {
		t.Error("a limit is not as the chapter has it")
	}
	kinds := []int{impl.KInit, impl.KCookie, impl.KFinish, impl.KData, impl.KChallenge, impl.KResponse, impl.KRekey, impl.KRekeyAck}
	if !slices.Equal(kinds, []int{1, 2, 3, 4, 5, 6, 7, 8}) {
		t.Errorf("the kinds are %v", kinds)
	}
}

// P7, of frames.
func TestFramesComeBackOfTheirBytes(t *testing.T) {
	met := map[string]impl.Frame{}
	of := map[int]int{}
	for _, f := range rightFrames() {
		of[f.Kind]++
		mustPutFrame(t, f, frameBytesOf(f))
		b := impl.PutFrame(f)
		back, ok := impl.GetFrame(b)
		if !ok || !sameFrames(back, f) {
			t.Errorf("%v comes back as %v, %v", f, back, ok)
		}
		if was, ok := met[string(b)]; ok && !sameFrames(was, f) {
			t.Errorf("%v and %v have the bytes %x", was, f, b)
		}
		met[string(b)] = f
	}
	if len(of) != kindsInAll {
		t.Errorf("there are frames of %d kinds", len(of))
	}
}

// P7, of bytes: of every kind and every length, right or not, beyond the longest one.
func TestBytesComeBackOfTheirFrame(t *testing.T) {
	read := map[byte]int{}
	for length := range mostBytesOfAny + 8 {
		for first := range 256 {
			for _, rest := range [][]byte{make([]byte, length), bytes.Repeat([]byte{1}, length), counted(3, length), pattern(length), bytes.Repeat([]byte{255}, length)} {
				b := append([]byte{byte(first)}, rest...)
				mustReadFrameAsTold(t, b)
				if f, ok := impl.GetFrame(b); ok {
					read[b[0]]++
					if back := impl.PutFrame(f); !bytes.Equal(back, b) {
						t.Errorf("%x comes back as %x", b, back)
					}
				}
			}
		}
	}
	for _, f := range rightFrames() {
		b := frameBytesOf(f)
		mustReadFrameAsTold(t, b)
		read[b[0]]++
	}
	if len(read) != kindsInAll {
		t.Errorf("bytes of %d kinds were read", len(read))
	}
}

func TestKnownFrames(t *testing.T) {
	cn, sn := []byte("cccccccccccc"), []byte("ssssssssssss")
	cookie, proof, tag := []byte("kkkkkkkkkkkkkkkk"), []byte("pppppppppppppppp"), []byte("tttttttttttttttt")
	hexCn, hexSn := strings.Repeat("63", 12), strings.Repeat("73", 12)
	hexCookie, hexProof, hexTag := strings.Repeat("6b", 16), strings.Repeat("70", 16), strings.Repeat("74", 16)
	for _, c := range []struct {
		f   impl.Frame
		hex string
	}{
		{impl.Frame{Kind: impl.KInit, Id: 9, Cn: cn}, "0109" + hexCn + strings.Repeat("00", 20)},
		{impl.Frame{Kind: impl.KCookie, Cn: cn, Sn: sn, Tick: 1000000, Cookie: cookie}, "02" + hexCn + hexSn + "000f4240" + hexCookie},
		{impl.Frame{Kind: impl.KFinish, Id: 1, Cn: cn, Sn: sn, Tick: 258, Cookie: cookie, Proof: proof}, "0301" + hexCn + hexSn + "00000102" + hexCookie + hexProof},
		{impl.Frame{Kind: impl.KData, Sn: sn, Epoch: 4294967295, Seq: 281474976710655, Body: []byte("hello"), Tag: tag}, "04" + hexSn + "ffffffff" + "ffffffffffff" + hexTag + "68656c6c6f"},
		{impl.Frame{Kind: impl.KData, Sn: sn, Tag: tag}, "04" + hexSn + "00000000" + "000000000000" + hexTag},
		{impl.Frame{Kind: impl.KChallenge, Sn: sn, Epoch: 1, Seq: 2, Body: cn, Tag: tag}, "05" + hexSn + "00000001" + "000000000002" + hexTag + hexCn},
		{impl.Frame{Kind: impl.KResponse, Sn: sn, Epoch: 0x01020304, Seq: 0x060708090a0b, Body: cn, Tag: tag}, "06" + hexSn + "01020304" + "060708090a0b" + hexTag + hexCn},
		{impl.Frame{Kind: impl.KRekey, Sn: sn, Epoch: 256, Seq: 65536, Body: []byte{0, 0, 1, 1}, Tag: tag}, "07" + hexSn + "00000100" + "000000010000" + hexTag + "00000101"},
		{impl.Frame{Kind: impl.KRekeyAck, Sn: sn, Epoch: 65535, Seq: 1 << 40, Body: []byte{255, 254, 253, 252}, Tag: tag}, "08" + hexSn + "0000ffff" + "010000000000" + hexTag + "fffefdfc"},
	} {
		b, err := hex.DecodeString(c.hex)
		if err != nil {
			t.Fatal(err)
		}
		mustPutFrame(t, c.f, b)
	}
}

func TestSizesOfFrames(t *testing.T) {
	for i, want := range []int{34, 45, 62, 39, 51, 51, 43, 43} {
		form := frameForms[i]
		if got := impl.SizeOf(someFrame(form, form.leastBody)); got != want {
			t.Errorf("SizeOf of %s is %d, not %d", form.name, got, want)
		}
	}
	data := frameForms[impl.KData-1]
	for body := range impl.MaxPlain + 1 {
		if got := impl.SizeOf(someFrame(data, body)); got != 39+body {
			t.Errorf("SizeOf of data of %d bytes is %d", body, got)
		}
	}
	if got := impl.SizeOf(impl.Frame{}); got != 0 {
		t.Errorf("SizeOf of the zero frame is %d", got)
	}
}

func TestNumbersOfFramesAtTheirEdges(t *testing.T) {
	edges := map[string]map[int]bool{
		"Id":    {-1: false, 0: false, 1: true, 9: true, 10: false, 255: false, 256: false, 257: false, 265: false},
		"Tick":  {-1: false, 0: true, 1: true, 1000000: true, 1000001: false, 1 << 24: false, 1<<32 - 1: false, 1 << 32: false, 1<<32 + 7: false},
		"Epoch": {-1: false, 0: true, 1: true, 4294967295: true, 4294967296: false, 4294967297: false, -4294967296: false},
		"Seq":   {-1: false, 0: true, 1: true, impl.MaxSeq - 1: true, impl.MaxSeq: false, impl.MaxSeq + 1: false, -impl.MaxSeq: false},
	}
	asked := 0
	for _, form := range frameForms {
		for _, part := range form.inOrder() {
			if part.number == nil {
				continue
			}
			for n, want := range edges[part.name] {
				f := someFrame(form, form.leastBody)
				*part.number(&f) = n
				if got := impl.FrameOk(f); got != want {
					t.Errorf("FrameOk of %s with %s %d is %v", form.name, part.name, n, got)
				}
				mustPutAsTold(t, f)
				asked++
			}
			for _, n := range []int{math.MaxInt, math.MinInt, math.MaxInt - 1, math.MinInt + 1, 1 << 62, -(1 << 62)} {
				f := someFrame(form, form.leastBody)
				*part.number(&f) = n
				mustNotPutFrame(t, f)
			}
		}
	}
	if asked != 2*9+2*9+5*7+5*7 {
		t.Errorf("%d edges were asked for", asked)
	}
}

// Each list with none, one byte less, just as many and one more; and lists that have the missing bytes in their spare room.
func TestListsOfFramesAtTheirEdges(t *testing.T) {
	for _, form := range frameForms {
		for _, part := range form.inOrder() {
			if part.list == nil || part.name == "Body" {
				continue
			}
			for _, n := range []int{0, 1, part.size - 1, part.size, part.size + 1, 2 * part.size, 12, 16, 32, 256 + part.size, 65536 + part.size} {
				f := someFrame(form, form.mostBody)
				*part.list(&f) = roomy(pattern(n)...)
				if got := impl.FrameOk(f); got != (n == part.size) {
					t.Errorf("FrameOk of %s with %s of %d bytes is %v", form.name, part.name, n, got)
				}
				mustPutAsTold(t, f)
			}
			f := someFrame(form, form.mostBody)
			*part.list(&f) = nil
			mustNotPutFrame(t, f)
		}
	}
}

func TestBodiesAtTheirEdges(t *testing.T) {
	right := map[int][]int{4: {0, 1, 11, 12, 13, 39, 40}, 5: {12}, 6: {12}, 7: {4}, 8: {4}}
	for _, form := range frameForms[3:] {
		for _, n := range []int{0, 1, 3, 4, 5, 11, 12, 13, 39, 40, 41, 42, 256, 256 + 4, 256 + 12, 300} {
			f := someFrame(form, n)
			f.Body = roomy(f.Body...)
			if got := impl.FrameOk(f); got != (form.kind == 4 && n <= 40 || slices.Contains(right[form.kind], n)) {
				t.Errorf("FrameOk of %s with %d bytes is %v", form.name, n, got)
			}
			mustPutAsTold(t, f)
		}
		f := someFrame(form, form.mostBody)
		f.Body = nil
		mustPutAsTold(t, f)
	}
}

func wrongKinds() []int {
	l := []int{-1, 0, 9, 10, 255, 256, math.MaxInt, math.MinInt, math.MaxInt - 1, math.MinInt + 1, 1 << 32, -(1 << 32)}
	for kind := 1; kind <= kindsInAll; kind++ {
		l = append(l, kind+256, kind-256, kind+1<<16, kind+1<<32, kind-1<<32, -kind, math.MinInt+kind)
	}
	return l
}

func TestKindsAtTheirEdges(t *testing.T) {
	for kind := 1; kind <= kindsInAll; kind++ {
		if got := impl.Sealed(kind); got != (kind >= 4) {
			t.Errorf("Sealed of %d is %v", kind, got)
		}
	}
	for _, kind := range wrongKinds() {
		if impl.Sealed(kind) {
			t.Errorf("%d is sealed", kind)
		}
		if got := impl.KindName(kind); got != "" {
			t.Errorf("KindName of %d is %q", kind, got)
		}
		mustNotPutFrame(t, impl.Frame{Kind: kind})
		for _, f := range rightFrames() {
			f.Kind = kind
			if impl.FrameOk(f) || len(impl.PutFrame(f)) != 0 {
				t.Errorf("%v is right", f)
			}
		}
	}
}

// A right frame with another right kind is right only where both name the same parts, of the same lengths.
func TestFramesOfAnotherKind(t *testing.T) {
	right := 0
	for _, form := range frameForms {
		for kind := 1; kind <= kindsInAll; kind++ {
			f := someFrame(form, form.leastBody)
			f.Kind = kind
			mustPutAsTold(t, f)
			if impl.FrameOk(f) {
				right++
			}
		}
	}
	// Each of its own kind; challenge and response of data's and of each other's; likewise rekey and its answer.
	if right != 8+2*2+2*2 {
		t.Errorf("%d of them are right", right)
	}
}

func TestFramesWithAPartTooMany(t *testing.T) {
	asked := 0
	for _, form := range frameForms {
		for _, part := range frameParts {
			if form.names(part) {
				continue
			}
			asked++
			for _, body := range []int{form.leastBody, form.mostBody} {
				f := someFrame(form, body)
				mustPutFrame(t, f, frameBytesOf(f))
				if part.number != nil {
					for _, n := range []int{1, -1, 2, 9, 10, 256, 1000000, 1 << 32, 1 << 48, math.MaxInt, math.MinInt} {
						*part.number(&f) = n
						mustNotPutFrame(t, f)
					}
					continue
				}
				for _, n := range []int{1, 4, 12, 16, 32, 256} {
					for _, l := range [][]byte{make([]byte, n), roomy(pattern(n)...)} {
						*part.list(&f) = l
						mustNotPutFrame(t, f)
					}
				}
				for _, l := range [][]byte{{}, roomy(), make([]byte, 0, 16)} {
					*part.list(&f) = l
					mustPutFrame(t, f, frameBytesOf(f))
				}
			}
		}
	}
	if asked != (10-2)+(10-4)+(10-6)+5*(10-5) {
		t.Errorf("%d parts were asked for", asked)
	}
}

func TestTheZeroFrameAndNoBytes(t *testing.T) {
	mustNotPutFrame(t, impl.Frame{})
	for kind := 1; kind <= kindsInAll; kind++ {
		mustNotPutFrame(t, impl.Frame{Kind: kind})
		mustNotGetFrame(t, []byte{byte(kind)})
		mustNotGetFrame(t, roomy(byte(kind)))
	}
	for _, b := range [][]byte{nil, {}, roomy(), make([]byte, 0, 100), frameBytesOf(someFrame(frameForms[0], 0))[:0], {0}, {9}, {255}} {
		mustNotGetFrame(t, b)
	}
}

// Of data a byte less or more of its body are other data, as long as it has no more than 40.
func TestBytesWithOneLessAndOneMore(t *testing.T) {
	for _, form := range frameForms {
		for body := form.leastBody; body <= form.mostBody; body++ {
			whole := frameBytesOf(someFrame(form, body))
			less := whole[:len(whole)-1]
			mustReadFrameAsTold(t, less)
			if _, ok := impl.GetFrame(less); ok != (form.kind == 4 && body > 0) {
				t.Errorf("%s of %d bytes with one less is %v", form.name, body, ok)
			}
			mustReadFrameAsTold(t, slices.Clone(whole)[1:])
			for _, x := range []byte{0, 1, 255} {
				more := append(slices.Clone(whole), x)
				mustReadFrameAsTold(t, more)
				if _, ok := impl.GetFrame(more); ok != (form.kind == 4 && body < 40) {
					t.Errorf("%s of %d bytes with one more is %v", form.name, body, ok)
				}
				mustReadFrameAsTold(t, append([]byte{x}, whole...))
			}
		}
	}
}

// What is missing of the bytes stands in the spare room behind them: it must not be read there.
func TestBytesThatAreCut(t *testing.T) {
	for _, f := range rightFrames() {
		whole := frameBytesOf(f)
		for n := range whole {
			mustReadFrameAsTold(t, whole[:n])
			mustReadFrameAsTold(t, roomy(whole[:n]...))
			if _, ok := impl.GetFrame(whole[:n]); ok != (f.Kind == 4 && n >= 39) {
				t.Errorf("the first %d bytes of %x are %v", n, whole, ok)
			}
		}
	}
}

func TestBytesThatAreTooMany(t *testing.T) {
	for _, form := range frameForms {
		whole := frameBytesOf(someFrame(form, form.mostBody))
		for _, n := range []int{1, 2, 4, 12, 16, 20, 34, 45, 256, 65536, 1 << 20} {
			mustNotGetFrame(t, append(slices.Clone(whole), make([]byte, n)...))
			mustNotGetFrame(t, append(slices.Clone(whole), counted(1, n)...))
		}
		mustNotGetFrame(t, slices.Concat(whole, whole))
	}
}

func TestBytesWithAnotherFirstByte(t *testing.T) {
	read := 0
	for _, form := range frameForms {
		b := frameBytesOf(someFrame(form, form.leastBody))
		for first := range 256 {
			b[0] = byte(first)
			mustReadFrameAsTold(t, b)
			if _, ok := impl.GetFrame(b); ok {
				read++
			}
		}
	}
	// Each of its own kind; cookie as data of 6 bytes, finish as data of 23; and those with the same parts of the same lengths.
	if read != 8+2+2*2+2*2 {
		t.Errorf("%d of them were read", read)
	}
}

func TestInitWantsItsNoughts(t *testing.T) {
	whole := frameBytesOf(someFrame(frameForms[0], 0))
	for i := range noughtsOfInit {
		for x := 1; x < 256; x++ {
			b := slices.Clone(whole)
			b[len(b)-1-i] = byte(x)
			mustNotGetFrame(t, b)
		}
		mustNotGetFrame(t, whole[:len(whole)-1-i])
		mustNotGetFrame(t, append(slices.Clone(whole), make([]byte, i+1)...))
	}
	mustNotGetFrame(t, append(slices.Clone(whole[:len(whole)-noughtsOfInit]), bytes.Repeat([]byte{255}, noughtsOfInit)...))
	mustGetFrame(t, whole, someFrame(frameForms[0], 0))
}

// Id and Tick may pass their limits in their bytes; Epoch and Seq of bytes 255 alone just meet theirs.
func TestBytesWhoseNumbersAreAtTheirLimits(t *testing.T) {
	for _, form := range frameForms {
		at := 1
		for _, part := range form.inOrder() {
			if part.number == nil {
				at += part.size
				continue
			}
			for _, n := range []int{0, 1, 2, 9, 10, 11, 128, 255, 256, 65535, 65536, 999999, 1000000, 1000001, 1 << 20, 1<<24 - 1, 1 << 24, 1 << 31, 1<<32 - 1, 1 << 32, 1<<47 + 1, 1<<48 - 2, 1<<48 - 1} {
				if n >= 1<<(8*part.size) {
					continue
				}
				b := frameBytesOf(someFrame(form, form.leastBody))
				for i := range part.size {
					b[at+i] = byte(n >> (8 * (part.size - 1 - i)))
				}
				mustReadFrameAsTold(t, b)
				f, ok := impl.GetFrame(b)
				if want := n >= part.least && n <= part.most; ok != want || ok && *part.number(&f) != n {
					t.Errorf("%s with the bytes of %d as %s is %v, %v", form.name, n, part.name, f, ok)
				}
			}
			at += part.size
		}
	}
}

func TestBentBytesOfFramesAreReadAsTold(t *testing.T) {
	for _, form := range frameForms {
		for _, b := range bendings(string(frameBytesOf(someFrame(form, form.mostBody)))) {
			mustReadFrameAsTold(t, []byte(b))
		}
	}
}

// Each byte of a frame's bytes counts: with another one they are another frame's, or none's.
func TestEachByteOfAFrameCounts(t *testing.T) {
	for _, form := range frameForms {
		f := someFrame(form, form.mostBody)
		whole := frameBytesOf(f)
		for i := range whole {
			b := slices.Clone(whole)
			b[i] ^= 1
			if other, ok := impl.GetFrame(b); ok && sameFrames(other, f) {
				t.Errorf("%x and %x are read alike", whole, b)
			}
		}
	}
}

func TestKindNames(t *testing.T) {
	for _, form := range frameForms {
		if got := impl.KindName(form.kind); got != form.name {
			t.Errorf("KindName of %d is %q, not %q", form.kind, got, form.name)
		}
		if got := impl.KindOf(form.name); got != form.kind {
			t.Errorf("KindOf of %q is %d, not %d", form.name, got, form.kind)
		}
		if got := impl.KindOf(impl.KindName(form.kind)); got != form.kind {
			t.Errorf("%d comes back as %d", form.kind, got)
		}
	}
	if got := impl.KindOf(""); got != 0 {
		t.Errorf("KindOf of no name is %d", got)
	}
}

func TestOtherNamesAreNoKinds(t *testing.T) {
	names := map[string]int{}
	for _, form := range frameForms {
		names[form.name] = form.kind
	}
	wrong := []string{" ", "x", "noise", "none", "up", "dial", "0", "1", "4", "rekey ack", "rekey-ack", "rekeyAck", "RekeyAck", "rekey_ack", "KInit", "k", "initcookie", "init cookie", "data\x00", "\x00", "d\u0430ta", "\ufeffdata", "data\xff", strings.Repeat("data", 1000)}
	for name := range names {
		wrong = append(wrong, strings.ToUpper(name), strings.ToUpper(name[:1])+name[1:], name[:len(name)-1]+strings.ToUpper(name[len(name)-1:]), " "+name, name+" ", name+"\n", name+"s", name[1:], name[:len(name)-1], name+name, "k"+name)
		wrong = append(wrong, bendings(name)...)
	}
	for _, s := range wrong {
		if got := impl.KindOf(s); got != names[s] {
			t.Errorf("KindOf of %q is %d, not %d", s, got, names[s])
		}
	}
}

// watchedFrames: right ones and wrong ones; each call makes them anew, all their lists with spare room.
func watchedFrames() []impl.Frame {
	l := []impl.Frame{{}, {Kind: 9}, {Kind: -1}, {Kind: 260}}
	for _, form := range frameForms {
		for _, body := range []int{0, 1, 4, 11, 12, 13, 40, 41} {
			l = append(l, someFrame(form, body))
		}
		for _, part := range frameParts {
			f := someFrame(form, form.mostBody)
			if part.list != nil {
				*part.list(&f) = counted(part.first, 17)
			} else {
				*part.number(&f) = -1
			}
			l = append(l, f)
		}
	}
	for i := range l {
		for _, part := range frameParts {
			if part.list != nil {
				*part.list(&l[i]) = roomy(*part.list(&l[i])...)
			}
		}
	}
	return l
}

func mustBeUntouchedFrame(t *testing.T, what string, f impl.Frame, was impl.Frame) {
	t.Helper()
	if !sameFrames(f, was) {
		t.Errorf("%s: the frame is %v now, was %v", what, f, was)
	}
	for _, part := range frameParts {
		if part.list != nil {
			mustBeUntouched(t, part.name+", "+what, *part.list(&f), *part.list(&was)...)
		}
	}
}

func scribbleFrame(f impl.Frame) {
	for _, part := range frameParts {
		if part.list != nil {
			scribble(*part.list(&f))
		}
	}
}

func TestPuttingFramesWritesIntoNoArgumentAndSharesNone(t *testing.T) {
	was := watchedFrames()
	for i, f := range watchedFrames() {
		first, second := impl.PutFrame(f), impl.PutFrame(f)
		want := slices.Clone(second)
		impl.FrameOk(f)
		impl.SizeOf(f)
		mustBeUntouchedFrame(t, "asked", f, was[i])
		scribble(first)
		mustBeUntouchedFrame(t, "with its bytes written over", f, was[i])
		if !bytes.Equal(second, want) {
			t.Errorf("PutFrame of %v is %x now, not %x", was[i], second, want)
		}
		scribbleFrame(f)
		if !bytes.Equal(second, want) {
			t.Errorf("PutFrame of %v is %x now, not %x", was[i], second, want)
		}
	}
}

// bytesToWatch: of right frames, of such with a byte less or more, and of none.
func bytesToWatch() [][]byte {
	l := [][]byte{{}, {1}, {4}, {9}, pattern(40), make([]byte, 39)}
	for _, form := range frameForms {
		for _, body := range []int{form.leastBody, form.mostBody} {
			b := frameBytesOf(someFrame(form, body))
			l = append(l, b, b[:len(b)-1], append(slices.Clone(b), 0))
		}
	}
	return l
}

func TestGettingFramesWritesIntoNoArgumentAndSharesNone(t *testing.T) {
	for _, was := range bytesToWatch() {
		b := roomy(was...)
		first, ok := impl.GetFrame(b)
		second, _ := impl.GetFrame(b)
		want, told := frameOfBytes(was)
		mustBeUntouched(t, "asked", b, was...)
		scribbleFrame(first)
		mustBeUntouched(t, "with its frame written over", b, was...)
		scribble(b)
		if ok != told || !sameFrames(second, want) {
			t.Errorf("GetFrame of %x is %v, %v now, not %v", was, second, ok, want)
		}
	}
}

// Of one answer each list is written over alone, its spare room too: all others stay as they were.
func TestListsOfAFrameShareNone(t *testing.T) {
	for _, was := range bytesToWatch() {
		want, _ := frameOfBytes(was)
		for _, written := range frameParts {
			if written.list == nil {
				continue
			}
			f, _ := impl.GetFrame(roomy(was...))
			scribble(*written.list(&f))
			*written.list(&f) = *written.list(&want)
			if !sameFrames(f, want) {
				t.Errorf("with its %s written over, GetFrame of %x is %v, not %v", written.name, was, f, want)
			}
		}
	}
}

// Lists that are one, and lists that stand one in the other's spare room, are like any others.
func TestFramesOfListsThatShareMemory(t *testing.T) {
	whole := pattern(200)
	one := impl.Frame{Kind: impl.KFinish, Id: 3, Cn: whole[:12], Sn: whole[:12], Tick: 5, Cookie: whole[:16], Proof: whole[:16]}
	mustPutFrame(t, one, frameBytesOf(one))
	chained := impl.Frame{Kind: impl.KFinish, Id: 3, Cn: whole[:12], Sn: whole[12:24], Tick: 5, Cookie: whole[24:40], Proof: whole[40:56]}
	mustPutFrame(t, chained, frameBytesOf(chained))
	back := impl.Frame{Kind: impl.KData, Body: whole[:40], Tag: whole[40:56], Sn: whole[56:68], Epoch: 1, Seq: 2}
	mustPutFrame(t, back, frameBytesOf(back))
	over := impl.Frame{Kind: impl.KChallenge, Body: whole[3:15], Tag: whole[8:24], Sn: whole[1:13]}
	mustPutFrame(t, over, frameBytesOf(over))
	if !bytes.Equal(whole, pattern(200)) {
		t.Error("they were written into")
	}
}

// What was asked, or refused, ahead leaves nothing behind.
func TestFramesKeepNothing(t *testing.T) {
	for range 3 {
		for _, form := range frameForms {
			f := someFrame(form, form.leastBody)
			mustNotPutFrame(t, impl.Frame{Kind: form.kind})
			mustPutFrame(t, f, frameBytesOf(f))
			mustNotGetFrame(t, frameBytesOf(f)[:20])
			scribble(impl.PutFrame(f))
			got, _ := impl.GetFrame(frameBytesOf(f))
			scribbleFrame(got)
			mustGetFrame(t, frameBytesOf(f), f)
			if impl.KindName(form.kind) != form.name || impl.KindName(0) != "" || impl.KindOf(form.name) != form.kind || impl.KindOf("") != 0 {
				t.Errorf("the names of %s", form.name)
			}
		}
	}
}
