package tests

import (
	"math"
	"math/rand"
	"slices"
	"testing"

	"loop.example/g00478/impl"
)

const (
	wordsOfAWin = 32
	bitsOfAWord = 32
	greatWord   = 4294967295
)

func sameWins(a impl.Win, b impl.Win) bool {
	return a.Top == b.Top && slices.Equal(a.Bits, b.Bits)
}

// winFrom lays the bits of the numbers of a list, whatever they are of this Top.
func winFrom(top int, taken ...int) impl.Win {
	w := impl.Win{Top: top, Bits: make([]int, wordsOfAWin)}
	for _, n := range taken {
		w.Bits[n/bitsOfAWord%wordsOfAWin] |= 1 << (n % bitsOfAWord)
	}
	return w
}

// standingOf: all numbers that a window of this Top may tell of, ascending.
func standingOf(top int) []int {
	l := make([]int, 0, impl.WinLen)
	for n := top - impl.WinLen + 1; n <= top; n++ {
		if n >= 0 {
			l = append(l, n)
		}
	}
	return l
}

func bitIsSet(w impl.Win, n int) bool {
	rest := n % impl.WinLen
	return w.Bits[rest/bitsOfAWord]>>(rest%bitsOfAWord)&1 == 1
}

// winIsRight, takenOf, mayOf, addedTo: what the chapter says, number by number.
func winIsRight(w impl.Win) bool {
	if w.Top < -1 || w.Top >= impl.MaxSeq || len(w.Bits) != wordsOfAWin {
		return false
	}
	for _, x := range w.Bits {
		if x < 0 || x > greatWord {
			return false
		}
	}
	held := make([]bool, impl.WinLen)
	for _, n := range standingOf(w.Top) {
		held[n%impl.WinLen] = true
	}
	for place := range impl.WinLen {
		if bitIsSet(w, place) && !held[place] {
			return false
		}
	}
	return w.Top == -1 || bitIsSet(w, w.Top)
}

func takenOf(w impl.Win) []int {
	if !winIsRight(w) {
		return []int{}
	}
	return slices.DeleteFunc(standingOf(w.Top), func(n int) bool { return !bitIsSet(w, n) })
}

func mayOf(w impl.Win, n int) bool {
	if !winIsRight(w) || n < 0 || n > impl.MaxSeq-1 {
		return false
	}
	return n > w.Top || n > w.Top-impl.WinLen && !slices.Contains(takenOf(w), n)
}

func addedTo(w impl.Win, n int) impl.Win {
	if !mayOf(w, n) {
		return w
	}
	top := max(w.Top, n)
	left := slices.DeleteFunc(takenOf(w), func(m int) bool { return m <= top-impl.WinLen })
	return winFrom(top, append(left, n)...)
}

// mustAnswerAsTold asks all four questions of a window and a number, and adds it.
func mustAnswerAsTold(t *testing.T, w impl.Win, n int) {
	t.Helper()
	may, has := mayOf(w, n), slices.Contains(takenOf(w), n)
	if got := impl.WinMay(w, n); got != may {
		t.Errorf("WinMay of %v and %d is %v", w, n, got)
	}
	if got := impl.WinHas(w, n); got != has {
		t.Errorf("WinHas of %v and %d is %v", w, n, got)
	}
	added, ok := impl.WinAdd(w, n)
	if want := addedTo(w, n); ok != may || !sameWins(added, want) {
		t.Errorf("WinAdd of %v and %d is %v, %v, not %v", w, n, added, ok, want)
	}
	if may && (!impl.WinOk(added) || !impl.WinHas(added, n) || impl.WinMay(added, n)) {
		t.Errorf("WinAdd of %v and %d is %v: it is wrong, or %d may come again", w, n, added, n)
	}
	if may && !slices.Equal(impl.WinList(added), takenOf(added)) {
		t.Errorf("WinList of %v is %v", added, impl.WinList(added))
	}
}

func mustBeRight(t *testing.T, w impl.Win) {
	t.Helper()
	if !impl.WinOk(w) || !winIsRight(w) {
		t.Errorf("%v is not right", w)
	}
	if got := impl.WinList(w); !slices.Equal(got, takenOf(w)) {
		t.Errorf("WinList of %v is %v, not %v", w, got, takenOf(w))
	}
}

func mustBeWrong(t *testing.T, w impl.Win) {
	t.Helper()
	if impl.WinOk(w) || winIsRight(w) {
		t.Errorf("%v is right", w)
	}
	if got := impl.WinList(w); len(got) != 0 {
		t.Errorf("WinList of %v is %v", w, got)
	}
	for _, n := range numbersAround(w.Top) {
		if impl.WinHas(w, n) || impl.WinMay(w, n) {
			t.Errorf("of %v, that is wrong, %d is taken, or may be", w, n)
		}
		if got, ok := impl.WinAdd(w, n); ok || !sameWins(got, w) {
			t.Errorf("WinAdd of %v, that is wrong, and %d is %v, %v", w, n, got, ok)
		}
	}
}

func mustBeWinOf(t *testing.T, l []int, want impl.Win) {
	t.Helper()
	if got := impl.WinOf(l); !sameWins(got, want) {
		t.Errorf("WinOf of %v is %v, not %v", l, got, want)
	}
}

func someTops() []int {
	return []int{-1, 0, 1, 30, 31, 32, 33, 63, 64, 500, 990, 991, 992, impl.WinLen - 2, impl.WinLen - 1, impl.WinLen, impl.WinLen + 1, 1055, 1056, 2*impl.WinLen - 2, 2*impl.WinLen - 1, 2 * impl.WinLen, 5000, 1<<32 - 1, 1 << 32, 1<<32 + 1023, 1<<47 + 77, impl.MaxSeq - impl.WinLen - 1, impl.MaxSeq - impl.WinLen, impl.MaxSeq - impl.WinLen + 1, impl.MaxSeq - 2, impl.MaxSeq - 1}
}

// numbersAround: the edges that the chapter names, by a Top of whatever kind; what runs over is a number like any other.
func numbersAround(top int) []int {
	l := []int{-2, -1, 0, 1, 31, 32, impl.WinLen - 1, impl.WinLen, impl.MaxSeq - 2, impl.MaxSeq - 1, impl.MaxSeq, impl.MaxSeq + 1, math.MaxInt, math.MaxInt - 1, math.MinInt, math.MinInt + 1, -impl.WinLen, -impl.MaxSeq, 1 << 62}
	for _, far := range []int{1, 2, 31, 32, 33, 512, impl.WinLen - 2, impl.WinLen - 1, impl.WinLen, impl.WinLen + 1, impl.WinLen + 32, 2*impl.WinLen - 1, 2 * impl.WinLen, 2*impl.WinLen + 1, 7 * impl.WinLen, 7*impl.WinLen + 3, 1 << 20, 1<<32 + 5, impl.WinLen << 32} {
		l = append(l, top-far, top+far)
	}
	return append(l, top)
}

// rightWins: of each Top a window with Top alone, one with all that may stand, and ones with holes.
func rightWins() []impl.Win {
	l := []impl.Win{winFrom(-1)}
	for _, top := range someTops() {
		if top == -1 {
			continue
		}
		all := standingOf(top)
		l = append(l, winFrom(top, top), winFrom(top, all...), winFrom(top, all[0], top))
		for _, step := range []int{2, 3, 31, 32, 33} {
			some := []int{top}
			for i := (len(all) - 1) % step; i < len(all); i += step {
				some = append(some, all[i])
			}
			l = append(l, winFrom(top, some...))
		}
		if len(all) > 2 {
			l = append(l, winFrom(top, append(slices.Clone(all[1:len(all)/2]), top)...))
		}
	}
	return l
}

// A history is what a window was told so far, with nothing forgotten.
type history struct {
	top   int
	times map[int]int
}

// mustTakeOnce is P8, of one number: it is taken just where it never was, and is not too old.
func (h *history) mustTakeOnce(t *testing.T, w impl.Win, n int) impl.Win {
	t.Helper()
	want := n >= 0 && n < impl.MaxSeq && h.times[n] == 0 && n > h.top-impl.WinLen
	next, ok := impl.WinAdd(w, n)
	if ok != want || impl.WinMay(w, n) != want {
		t.Fatalf("%d with the top %d, taken %d times: WinAdd is %v", n, h.top, h.times[n], ok)
	}
	if !ok {
		return next
	}
	h.times[n]++
	h.top = max(h.top, n)
	if h.times[n] != 1 || impl.WinMay(next, n) || !impl.WinHas(next, n) {
		t.Fatalf("%d was taken %d times, and may be again", n, h.times[n])
	}
	return next
}

// mustTell: what is told to be taken was, and what was, and is not too old, is told.
func (h *history) mustTell(t *testing.T, w impl.Win) {
	t.Helper()
	want := []int{}
	for _, n := range standingOf(h.top) {
		if h.times[n] > 0 {
			want = append(want, n)
		}
		if impl.WinHas(w, n) != (h.times[n] > 0) {
			t.Fatalf("WinHas of %d is %v, taken %d times", n, impl.WinHas(w, n), h.times[n])
		}
	}
	if got := impl.WinList(w); w.Top != h.top || !impl.WinOk(w) || !slices.Equal(got, want) {
		t.Fatalf("the top is %d, not %d, the list %v, not %v", w.Top, h.top, got, want)
	}
}

func mustTakeEachOnce(t *testing.T, l []int) {
	t.Helper()
	h := &history{top: -1, times: map[int]int{}}
	w := impl.WinNew()
	for i, n := range l {
		w = h.mustTakeOnce(t, w, n)
		if i%97 == 0 {
			h.mustTell(t, w)
		}
	}
	h.mustTell(t, w)
	mustBeWinOf(t, l, w)
}

// P8, where numbers come nearly in order: mixed, with doubles, with ones that are late, too old, or wrong.
func TestEachNumberIsTakenOnce(t *testing.T) {
	for seed := range 12 {
		r := rand.New(rand.NewSource(int64(seed)))
		for _, spread := range []int{1, 3, 40, 600, 1100, 3000} {
			for _, from := range []int{0, 1000, 1 << 40, impl.MaxSeq - 1500} {
				l := []int{}
				for i := range 1200 {
					n := from + i + r.Intn(2*spread) - spread
					l = append(l, n)
					if r.Intn(4) == 0 {
						l = append(l, l[r.Intn(len(l))])
					}
				}
				mustTakeEachOnce(t, l)
			}
		}
	}
}

// P8, where most come with leaps of some windows, and what was left behind comes again.
func TestEachNumberIsTakenOnceOverLeaps(t *testing.T) {
	for seed := range 12 {
		r := rand.New(rand.NewSource(int64(100 + seed)))
		for _, leap := range []int{2, 100, 1023, 1024, 1025, 5000, 1 << 30} {
			l := []int{}
			at := r.Intn(50)
			for range 300 {
				l = append(l, at, at, at-1, at-r.Intn(2*impl.WinLen), at-impl.WinLen, at-impl.WinLen+1)
				l = append(l, l[r.Intn(len(l))], l[max(0, len(l)-1-r.Intn(20))])
				at += r.Intn(leap) + 1
			}
			mustTakeEachOnce(t, l)
		}
	}
}

// P8, of all orders of a few numbers, a window apart and near each other.
func TestEachNumberIsTakenOnceInAnyOrder(t *testing.T) {
	for _, l := range [][]int{{0, 1, 2, 3, 4}, {5, 5, 7, 6, 6}, {0, 1023, 1024, 1025, 2048}, {3, 3 + 1024, 3 + 2048, 3 + 1023, 4 + 1024}, {31, 32, 1055, 1056, 1087}, {-1, 0, impl.MaxSeq - 1, impl.MaxSeq, impl.MaxSeq - 1024}, {100, 1123, 1124, 100, 1123}, {impl.MaxSeq - 1, impl.MaxSeq - 1024, impl.MaxSeq - 1025, impl.MaxSeq - 2, impl.MaxSeq - 1}} {
		ordersOf(l, len(l), func(order []int) {
			mustTakeEachOnce(t, order)
		})
	}
}

func ordersOf(l []int, k int, do func([]int)) {
	if k <= 1 {
		do(slices.Clone(l))
		return
	}
	for i := range k {
		l[i], l[k-1] = l[k-1], l[i]
		ordersOf(l, k-1, do)
		l[i], l[k-1] = l[k-1], l[i]
	}
}

// P8, in order and against it, three windows long: of those that go down only the first window is taken.
func TestNumbersUpAndDown(t *testing.T) {
	up := []int{}
	for n := range 3 * impl.WinLen {
		up = append(up, n)
	}
	down := slices.Clone(up)
	slices.Reverse(down)
	mustTakeEachOnce(t, slices.Concat(up, up))
	mustTakeEachOnce(t, slices.Concat(down, down))
	mustTakeEachOnce(t, slices.Concat(down, up, down))
	if got := impl.WinList(impl.WinOf(up)); !slices.Equal(got, up[2*impl.WinLen:]) {
		t.Errorf("up: %v", got)
	}
	if got := impl.WinList(impl.WinOf(down)); !slices.Equal(got, up[2*impl.WinLen:]) {
		t.Errorf("down: %v", got)
	}
	even := []int{}
	for n := 0; n < 5*impl.WinLen; n += 2 {
		even = append(even, n)
	}
	mustTakeEachOnce(t, slices.Concat(even, up, even))
}

func TestNewWindow(t *testing.T) {
	w := impl.WinNew()
	if impl.WinLen != 1024 || w.Top != -1 || !slices.Equal(w.Bits, make([]int, 32)) || !impl.WinOk(w) || len(impl.WinList(w)) != 0 {
		t.Errorf("WinNew is %v", w)
	}
	for _, n := range numbersAround(-1) {
		mustAnswerAsTold(t, w, n)
		if impl.WinHas(w, n) {
			t.Errorf("a new one has %d", n)
		}
		if got := impl.WinMay(w, n); got != (n >= 0 && n < 281474976710656) {
			t.Errorf("WinMay of a new one and %d is %v", n, got)
		}
	}
}

func TestKnownWindows(t *testing.T) {
	for _, c := range []struct {
		l     []int
		top   int
		words map[int]int
		taken []int
	}{
		{nil, -1, nil, nil},
		{[]int{0}, 0, map[int]int{0: 1}, []int{0}},
		{[]int{0, 1, 2}, 2, map[int]int{0: 7}, []int{0, 1, 2}},
		{[]int{2, 0, 1}, 2, map[int]int{0: 7}, []int{0, 1, 2}},
		{[]int{2, 2, 0, 2, 0}, 2, map[int]int{0: 5}, []int{0, 2}},
		{[]int{31}, 31, map[int]int{0: 0x80000000}, []int{31}},
		{[]int{32}, 32, map[int]int{1: 1}, []int{32}},
		{[]int{33, 31, 32}, 33, map[int]int{0: 0x80000000, 1: 3}, []int{31, 32, 33}},
		{[]int{1023}, 1023, map[int]int{31: 0x80000000}, []int{1023}},
		{[]int{1023, 0}, 1023, map[int]int{0: 1, 31: 0x80000000}, []int{0, 1023}},
		{[]int{1024, 0}, 1024, map[int]int{0: 1}, []int{1024}},
		{[]int{0, 1024}, 1024, map[int]int{0: 1}, []int{1024}},
		{[]int{1, 1024}, 1024, map[int]int{0: 3}, []int{1, 1024}},
		{[]int{1, 1025}, 1025, map[int]int{0: 2}, []int{1025}},
		{[]int{5, 1040, 1030, 6, 17, 16}, 1040, map[int]int{0: 1<<16 | 1<<6 | 1<<17}, []int{17, 1030, 1040}},
		{[]int{3, 5, 4, 5000}, 5000, map[int]int{28: 1 << 8}, []int{5000}},
		{[]int{281474976710655}, 281474976710655, map[int]int{31: 0x80000000}, []int{281474976710655}},
		{[]int{281474976710655, 281474976710656, 281474976709632, 281474976709631}, 281474976710655, map[int]int{0: 1, 31: 0x80000000}, []int{281474976709632, 281474976710655}},
	} {
		want := impl.Win{Top: c.top, Bits: make([]int, wordsOfAWin)}
		for i, x := range c.words {
			want.Bits[i] = x
		}
		mustBeWinOf(t, c.l, want)
		mustBeRight(t, want)
		if got := impl.WinList(want); !slices.Equal(got, c.taken) {
			t.Errorf("WinList of %v is %v, not %v", want, got, c.taken)
		}
	}
}

func TestEachPlaceHasItsBit(t *testing.T) {
	for place := range impl.WinLen {
		for _, n := range []int{place, place + impl.WinLen, place + 5*impl.WinLen, place + impl.MaxSeq - impl.WinLen} {
			w, ok := impl.WinAdd(impl.WinNew(), n)
			want := impl.Win{Top: n, Bits: make([]int, wordsOfAWin)}
			want.Bits[place/32] = 1 << (place % 32)
			if !ok || !sameWins(w, want) || !impl.WinOk(w) || !slices.Equal(impl.WinList(w), []int{n}) {
				t.Errorf("with %d alone it is %v, %v", n, w, ok)
			}
		}
	}
}

func TestWindowsAtTheirEdges(t *testing.T) {
	for _, w := range rightWins() {
		mustBeRight(t, w)
		for _, n := range numbersAround(w.Top) {
			mustAnswerAsTold(t, w, n)
		}
	}
}

func TestEdgesOfAFullAndOfABareWindow(t *testing.T) {
	for _, top := range []int{impl.WinLen, 5000, 1 << 40, impl.MaxSeq - 3*impl.WinLen} {
		full, bare := winFrom(top, standingOf(top)...), winFrom(top, top)
		for _, c := range []struct {
			n                          int
			has, may, bareHas, bareMay bool
		}{
			{top - impl.WinLen, false, false, false, false},
			{top - impl.WinLen + 1, true, false, false, true},
			{top - 1, true, false, false, true},
			{top, true, false, true, false},
			{top + 1, false, true, false, true},
			{top + impl.WinLen - 1, false, true, false, true},
			{top + impl.WinLen, false, true, false, true},
			{top + impl.WinLen + 1, false, true, false, true},
			{-1, false, false, false, false},
			{impl.MaxSeq - 1, false, true, false, true},
			{impl.MaxSeq, false, false, false, false},
		} {
			if impl.WinHas(full, c.n) != c.has || impl.WinMay(full, c.n) != c.may {
				t.Errorf("a full window of %d: has %d %v, may %v", top, c.n, impl.WinHas(full, c.n), impl.WinMay(full, c.n))
			}
			if impl.WinHas(bare, c.n) != c.bareHas || impl.WinMay(bare, c.n) != c.bareMay {
				t.Errorf("a bare window of %d: has %d %v, may %v", top, c.n, impl.WinHas(bare, c.n), impl.WinMay(bare, c.n))
			}
		}
	}
}

// Of a full window a leap leaves what is not too old, and nothing of a window or more.
func TestLeaps(t *testing.T) {
	for _, top := range []int{impl.WinLen - 2, impl.WinLen - 1, impl.WinLen, 1500, 1 << 33} {
		full := winFrom(top, standingOf(top)...)
		for _, leap := range []int{1, 2, 31, 32, 33, 64, 1000, impl.WinLen - 2, impl.WinLen - 1, impl.WinLen, impl.WinLen + 1, impl.WinLen + 5, 2*impl.WinLen - 1, 2 * impl.WinLen, 2*impl.WinLen + 1, 1000 * impl.WinLen, 1000*impl.WinLen + 7, 1 << 40, impl.MaxSeq - 1 - top} {
			to := top + leap
			w, ok := impl.WinAdd(full, to)
			want := []int{}
			for _, n := range standingOf(top) {
				if n > to-impl.WinLen {
					want = append(want, n)
				}
			}
			want = append(want, to)
			if got := impl.WinList(w); !ok || w.Top != to || !impl.WinOk(w) || !slices.Equal(got, want) {
				t.Errorf("from %d to %d: %v, %v", top, to, got, ok)
			}
			for _, n := range []int{top, top - 1, to - impl.WinLen, to - impl.WinLen + 1, to - 1} {
				mustAnswerAsTold(t, w, n)
			}
		}
	}
}

// A leap of less than a window drops just what stood at the places that it goes over.
func TestLeapsOfEachLength(t *testing.T) {
	for _, top := range []int{-1, 0, 40, impl.WinLen - 1, 3333} {
		full := winFrom(top, standingOf(top)...)
		for leap := 1; leap <= 2*impl.WinLen+1; leap++ {
			w, ok := impl.WinAdd(full, top+leap)
			if want := addedTo(full, top+leap); !ok || !sameWins(w, want) {
				t.Fatalf("from %d by %d: %v, %v, not %v", top, leap, w, ok, want)
			}
		}
	}
}

func TestNumbersOfOneRest(t *testing.T) {
	for _, rest := range []int{0, 1, 31, 32, 77, 1022, 1023} {
		l := []int{}
		for i := range 6 {
			l = append(l, rest+i*impl.WinLen)
		}
		for i, n := range l {
			w := impl.WinOf(l[:i+1])
			if got := impl.WinList(w); !slices.Equal(got, []int{n}) {
				t.Errorf("up to %d: %v", n, got)
			}
			for j, m := range l {
				if impl.WinHas(w, m) != (j == i) || impl.WinMay(w, m) != (j > i) {
					t.Errorf("with %d: has %d %v, may %v", n, m, impl.WinHas(w, m), impl.WinMay(w, m))
				}
			}
		}
		slices.Reverse(l)
		mustBeWinOf(t, l, winFrom(l[0], l[0]))
	}
}

func TestTopsAtTheirEdges(t *testing.T) {
	for _, top := range []int{0, 1, 31, 32, impl.WinLen - 2, impl.WinLen - 1, impl.WinLen, impl.MaxSeq - 2, impl.MaxSeq - 1} {
		mustBeRight(t, winFrom(top, top))
		mustBeRight(t, winFrom(top, standingOf(top)...))
		mustBeWrong(t, winFrom(top))
	}
	mustBeRight(t, winFrom(-1))
	for _, top := range []int{-2, -3, -31, -32, -impl.WinLen, -impl.WinLen - 1, -impl.MaxSeq, impl.MaxSeq, impl.MaxSeq + 1, impl.MaxSeq + impl.WinLen, 1 << 62, math.MaxInt, math.MaxInt - 1, math.MaxInt - impl.WinLen, math.MinInt, math.MinInt + 1, math.MinInt + impl.WinLen} {
		full := winFrom(top)
		for i := range full.Bits {
			full.Bits[i] = greatWord
		}
		mustBeWrong(t, winFrom(top))
		mustBeWrong(t, winFrom(top, 0))
		mustBeWrong(t, full)
		if top > 0 {
			mustBeWrong(t, winFrom(top, top))
		}
	}
}

// A Top that is not taken is wrong, whatever else is; so are bits where there is no Top at all.
func TestTopsThatAreNotTaken(t *testing.T) {
	for _, top := range someTops() {
		if top == -1 {
			continue
		}
		all := standingOf(top)
		mustBeWrong(t, winFrom(top))
		mustBeWrong(t, winFrom(top, all[:len(all)-1]...))
		if len(all) > 1 {
			mustBeWrong(t, winFrom(top, all[0]))
			mustBeWrong(t, winFrom(top, all[len(all)-2]))
		}
	}
	for place := range impl.WinLen {
		mustBeWrong(t, winFrom(-1, place))
	}
	full := winFrom(impl.WinLen-1, standingOf(impl.WinLen-1)...)
	full.Top = -1
	mustBeWrong(t, full)
}

// Each place by each Top below a window: behind Top none may be set; from a window on all may.
func TestBitsWhereNoNumberStands(t *testing.T) {
	for _, top := range []int{0, 1, 30, 31, 32, 33, 62, 63, 64, 511, 991, 992, 1000, impl.WinLen - 3, impl.WinLen - 2, impl.WinLen - 1, impl.WinLen, impl.WinLen + 1, impl.WinLen + 31, 2 * impl.WinLen, impl.MaxSeq - 1} {
		for place := range impl.WinLen {
			w := winFrom(top, top, place)
			if got := impl.WinOk(w); got != (place <= top) {
				t.Errorf("WinOk with Top %d and the place %d is %v", top, place, got)
			}
		}
	}
	for top := range impl.WinLen - 1 {
		w := winFrom(top, append(standingOf(top), top+1)...)
		mustBeWrong(t, w)
		mustBeWrong(t, winFrom(top, top, impl.WinLen-1))
	}
}

func TestWrongWords(t *testing.T) {
	for _, top := range []int{-1, 0, 40, impl.WinLen - 1, impl.WinLen, 5000, impl.MaxSeq - 1} {
		for i := range wordsOfAWin {
			for _, x := range []int{-1, -2, -greatWord, -greatWord - 1, greatWord + 1, greatWord + 2, 1 << 33, 1 << 40, math.MaxInt, math.MinInt, math.MinInt + 1} {
				w := impl.WinNew()
				if top >= 0 {
					w = winFrom(top, top)
				}
				w.Bits[i] |= x
				mustBeWrong(t, w)
			}
		}
	}
	for _, top := range []int{impl.WinLen - 1, impl.WinLen, 5000, impl.MaxSeq - 1} {
		for i := range wordsOfAWin {
			w := winFrom(top, top)
			w.Bits[i] = greatWord
			mustBeRight(t, w)
			w.Bits[i]++
			mustBeWrong(t, w)
			w.Bits[i] = -1
			mustBeWrong(t, w)
		}
	}
	mustBeWrong(t, impl.Win{Top: 0, Bits: append([]int{greatWord}, make([]int, 31)...)})
	mustBeRight(t, impl.Win{Top: 31, Bits: append([]int{greatWord}, make([]int, 31)...)})
	mustBeWrong(t, impl.Win{Top: 30, Bits: append([]int{greatWord}, make([]int, 31)...)})
}

// Spare room stands behind the words: a list of 31 must not go on there.
func TestWrongCountsOfWords(t *testing.T) {
	mustBeWrong(t, impl.Win{})
	mustBeWrong(t, impl.Win{Top: -1})
	mustBeWrong(t, impl.Win{Top: -1, Bits: []int{}})
	for _, top := range []int{-1, 0, 31, 40, impl.WinLen - 1, impl.WinLen, 5000, impl.MaxSeq - 1} {
		right := impl.WinNew()
		if top >= 0 {
			right = winFrom(top, top)
		}
		for count := range 70 {
			words := slices.Concat(right.Bits, make([]int, 70))[:count]
			if w := (impl.Win{Top: top, Bits: words}); count == wordsOfAWin {
				mustBeRight(t, w)
			} else {
				mustBeWrong(t, w)
			}
			w := impl.Win{Top: top, Bits: roomyInts(words...)}
			if got := impl.WinOk(w); got != (count == wordsOfAWin) {
				t.Errorf("WinOk of Top %d and %d words is %v", top, count, got)
			}
		}
		mustBeWrong(t, impl.Win{Top: top, Bits: append([]int{0}, right.Bits...)})
		mustBeWrong(t, impl.Win{Top: top, Bits: slices.Concat(right.Bits, right.Bits)})
	}
}

func TestListsWithWrongNumbers(t *testing.T) {
	wrong := []int{-1, -2, -impl.WinLen, impl.MaxSeq, impl.MaxSeq + 1, impl.MaxSeq + 5, math.MaxInt, math.MinInt, math.MinInt + 1}
	mustBeWinOf(t, nil, winFrom(-1))
	mustBeWinOf(t, []int{}, winFrom(-1))
	mustBeWinOf(t, wrong, winFrom(-1))
	for _, x := range wrong {
		mustBeWinOf(t, []int{x}, winFrom(-1))
		mustBeWinOf(t, []int{x, 0}, winFrom(0, 0))
		mustBeWinOf(t, []int{5, x, 3, x, x, 5}, winFrom(5, 5, 3))
		mustBeWinOf(t, []int{2000, x, 977, 976, x}, winFrom(2000, 2000, 977))
		mustBeWinOf(t, []int{impl.MaxSeq - 1, x, 0, impl.MaxSeq - 1}, winFrom(impl.MaxSeq-1, impl.MaxSeq-1))
	}
}

// WinOf is what WinAdd comes to, number by number.
func TestListsAreAddedInOrder(t *testing.T) {
	r := rand.New(rand.NewSource(8))
	for range 60 {
		l := []int{}
		for range 80 {
			l = append(l, []int{r.Intn(100), r.Intn(3000), r.Intn(3000) - 1500, r.Intn(1 << 48), impl.MaxSeq - r.Intn(2000) + 5}[r.Intn(2+r.Intn(4))])
		}
		w := impl.WinNew()
		for i, n := range l {
			want := addedTo(w, n)
			w, _ = impl.WinAdd(w, n)
			if !sameWins(w, want) {
				t.Fatalf("with %d it is %v, not %v", n, w, want)
			}
			mustBeWinOf(t, l[:i+1], w)
		}
		for _, n := range impl.WinList(w) {
			mustAnswerAsTold(t, w, n)
		}
	}
}

// What is listed makes the same window again.
func TestWindowsComeBackOfTheirLists(t *testing.T) {
	for _, w := range rightWins() {
		l := impl.WinList(w)
		mustBeWinOf(t, l, w)
		slices.Reverse(l)
		mustBeWinOf(t, l, w)
		if !slices.IsSorted(impl.WinList(w)) {
			t.Errorf("WinList of %v is %v", w, impl.WinList(w))
		}
	}
}

// winsToWatch: right ones and wrong ones; each call makes them anew, their words with spare room.
func winsToWatch() []impl.Win {
	l := []impl.Win{{}, {Top: -1}, {Top: 7, Bits: []int{1, 2, 3}}, winFrom(-2), winFrom(5), winFrom(5, 5, 9), winFrom(-1, 3), winFrom(impl.MaxSeq, 0), winFrom(math.MinInt), winFrom(math.MaxInt, 0), {Top: -1, Bits: make([]int, 31)}, {Top: -1, Bits: make([]int, 33)}}
	low, great := winFrom(2000, 2000), winFrom(2000, 2000)
	low.Bits[3], great.Bits[3] = -1, greatWord+1
	l = append(l, low, great)
	for _, w := range rightWins() {
		l = append(l, impl.Win{Top: w.Top, Bits: slices.Clone(w.Bits)})
	}
	for i := range l {
		l[i].Bits = roomyInts(l[i].Bits...)
	}
	return l
}

func TestWindowsWriteIntoNoArgumentAndShareNone(t *testing.T) {
	was := winsToWatch()
	for i := range was {
		for _, n := range numbersAround(was[i].Top) {
			w := impl.Win{Top: was[i].Top, Bits: roomyInts(was[i].Bits...)}
			first, ok := impl.WinAdd(w, n)
			second, _ := impl.WinAdd(w, n)
			want := addedTo(was[i], n)
			list := impl.WinList(w)
			impl.WinOk(w)
			impl.WinHas(w, n)
			impl.WinMay(w, n)
			mustBeUntouchedInts(t, "asked", w.Bits, was[i].Bits...)
			scribbleInts(first.Bits)
			scribbleInts(list)
			mustBeUntouchedInts(t, "with its answers written over", w.Bits, was[i].Bits...)
			if !sameWins(second, want) {
				t.Errorf("WinAdd of %v and %d is %v now, %v", was[i], n, second, ok)
			}
			scribbleInts(w.Bits)
			if !sameWins(second, want) {
				t.Errorf("with its argument written over, WinAdd of %v and %d is %v, %v", was[i], n, second, ok)
			}
		}
	}
}

func TestListsOfWindowsAreTheirOwn(t *testing.T) {
	was := winsToWatch()
	for i, w := range winsToWatch() {
		list, again := impl.WinList(w), impl.WinList(w)
		scribbleInts(list)
		mustBeUntouchedInts(t, "with its list written over", w.Bits, was[i].Bits...)
		scribbleInts(w.Bits)
		if !slices.Equal(again, takenOf(was[i])) {
			t.Errorf("WinList of %v is %v now", was[i], again)
		}
	}
	for _, was := range [][]int{{}, {4}, {4, 4, -1, 2, impl.MaxSeq}, {0, 5000, 3977, 3976, 0}, make([]int, 32), make([]int, 40)} {
		l := roomyInts(was...)
		first, second := impl.WinOf(l), impl.WinOf(l)
		want := impl.Win{Top: second.Top, Bits: slices.Clone(second.Bits)}
		scribbleInts(first.Bits)
		mustBeUntouchedInts(t, "WinOf", l, was...)
		scribbleInts(l)
		if !sameWins(second, want) {
			t.Errorf("WinOf of %v is %v now, not %v", was, second, want)
		}
	}
}

// What was asked, or refused, ahead leaves nothing behind.
func TestWindowsKeepNothing(t *testing.T) {
	for range 3 {
		w := impl.WinNew()
		scribbleInts(w.Bits)
		mustBeWrong(t, w)
		if !sameWins(impl.WinNew(), winFrom(-1)) {
			t.Errorf("WinNew is %v now", impl.WinNew())
		}
		mustBeWinOf(t, []int{3, 1}, winFrom(3, 3, 1))
		impl.WinAdd(winFrom(3, 3), 1500)
		mustAnswerAsTold(t, winFrom(3, 3), 2)
		impl.WinAdd(winFrom(3), 2)
		mustBeWinOf(t, nil, winFrom(-1))
	}
}
