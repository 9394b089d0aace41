package tests

import (
	"math"
	"slices"
	"testing"

	"loop.example/g00478/impl"
)

const (
	longestWait = 8
	mostTries   = 5
	lastDue     = 1000008
)

// The reading of the chapter, for whatever comes.

func waitsOfTimers() map[int]int {
	return map[int]int{1: 2, 2: 4, 4: 8, 8: 8}
}

func timerIsRight(x impl.Timer) bool {
	if !x.On {
		return x.Due == 0 && x.Wait == 0 && x.Tries == 0
	}
	_, waits := waitsOfTimers()[x.Wait]
	return waits && x.Due > -1 && x.Due < lastDue+1 && x.Tries > 0 && x.Tries < mostTries+1
}

func timerSetOf(now int) impl.Timer {
	if timeIsRight(now) {
		return timerOf(now+1, 1, 1)
	}
	return impl.Timer{}
}

func timerFiresOf(x impl.Timer, now int) bool {
	return x.On && timerIsRight(x) && timeIsRight(now) && !(x.Due > now)
}

func timerNextOf(x impl.Timer, now int) (impl.Timer, int) {
	if !timerFiresOf(x, now) {
		return x, 0
	}
	if x.Tries == mostTries {
		return impl.Timer{}, 2
	}
	wait := waitsOfTimers()[x.Wait]
	return timerOf(now+wait, wait, x.Tries+1), 1
}

func spanOf(n int) int {
	return map[int]int{1: 1, 2: 3, 3: 7, 4: 15, 5: 23}[n]
}

// timerOf is On, whatever its numbers are.
func timerOf(due int, wait int, tries int) impl.Timer {
	return impl.Timer{On: true, Due: due, Wait: wait, Tries: tries}
}

func mustSetAsTold(t *testing.T, now int) impl.Timer {
	t.Helper()
	x := impl.TimerSet(now)
	if want := timerSetOf(now); x != want || !impl.TimerOk(x) {
		t.Errorf("TimerSet of %d is %v, not %v, and TimerOk of it %v", now, x, want, impl.TimerOk(x))
	}
	return x
}

// mustTimerAsTold: all that the chapter answers of x at now.
func mustTimerAsTold(t *testing.T, x impl.Timer, now int) (impl.Timer, int) {
	t.Helper()
	if got := impl.TimerOk(x); got != timerIsRight(x) {
		t.Errorf("TimerOk of %v is %v", x, got)
	}
	if got := impl.TimerFires(x, now); got != timerFiresOf(x, now) {
		t.Errorf("TimerFires of %v at %d is %v", x, now, got)
	}
	next, what := impl.TimerNext(x, now)
	if want, told := timerNextOf(x, now); next != want || what != told {
		t.Errorf("TimerNext of %v at %d is %v, %d, not %v, %d", x, now, next, what, want, told)
	}
	return next, what
}

// mustStandStill: it does not fire, and comes back as it was, with 0.
func mustStandStill(t *testing.T, x impl.Timer, now int) {
	t.Helper()
	next, what := mustTimerAsTold(t, x, now)
	if next != x || what != 0 || impl.TimerFires(x, now) {
		t.Errorf("%v at %d fires (%v), and is %v, %d then", x, now, impl.TimerFires(x, now), next, what)
	}
}

func mustFire(t *testing.T, x impl.Timer, now int, want impl.Timer, told int) {
	t.Helper()
	next, what := mustTimerAsTold(t, x, now)
	if next != want || what != told || !impl.TimerFires(x, now) {
		t.Errorf("%v at %d fires (%v), and is %v, %d then, not %v, %d", x, now, impl.TimerFires(x, now), next, what, want, told)
	}
}

// edgesOfDue, edgesOfWait, edgesOfTry: which are right, at the edges that the chapter has, on both sides of them, and where a count runs over.
func edgesOfDue() map[int]bool {
	return map[int]bool{
		-9: false, -8: false, -2: false, -1: false, 0: true, 1: true, 8: true, 300: true,
		lastTick - 8: true, lastTick - 1: true, lastTick: true, lastTick + 1: true, lastDue - 1: true, lastDue: true, lastDue + 1: false, lastDue + 8: false,
		1 << 24: false, 1 << 32: false, 1<<32 + 5: false, -(1 << 32): false,
		math.MaxInt: false, math.MaxInt - 1: false, math.MaxInt - 8: false, math.MinInt: false, math.MinInt + 1: false, math.MinInt + 8: false,
	}
}

func edgesOfWait() map[int]bool {
	return map[int]bool{
		-8: false, -4: false, -2: false, -1: false, 0: false, 1: true, 2: true, 3: false, 4: true, 5: false, 6: false, 7: false, 8: true, 9: false, 10: false, 15: false, 16: false, 32: false,
		1 << 32: false, 1<<32 + 1: false, 1<<32 + 8: false, -(1 << 32): false, 1 << 62: false, 1<<62 + 4: false,
		math.MaxInt: false, math.MaxInt - 1: false, math.MinInt: false, math.MinInt + 1: false, math.MinInt + 4: false,
	}
}

func edgesOfTry() map[int]bool {
	return map[int]bool{
		-5: false, -1: false, 0: false, 1: true, 2: true, 3: true, 4: true, 5: true, 6: false, 7: false, 8: false,
		1 << 32: false, 1<<32 + 1: false, 1<<32 + 5: false, -(1 << 32): false,
		math.MaxInt: false, math.MaxInt - 1: false, math.MinInt: false, math.MinInt + 1: false, math.MinInt + 5: false,
	}
}

func TestLimitsOfTimers(t *testing.T) {
	if impl.MaxWait != longestWait || impl.MaxTries != mostTries || impl.MaxTime != lastTick || impl.MaxTime+impl.MaxWait != lastDue {
		t.Error(impl.MaxWait, impl.MaxTries, impl.MaxTime)
	}
}

// mustFireWhereItsSpansSay: set at a number, asked at each from there on, one by one.
func mustFireWhereItsSpansSay(t *testing.T, set int) {
	t.Helper()
	x, fired, told := mustSetAsTold(t, set), []int{}, []int{}
	for ahead := range 41 {
		next, what := mustTimerAsTold(t, x, set+ahead)
		if fires := impl.TimerFires(x, set+ahead); fires != (what != 0) {
			t.Errorf("%v at %d fires (%v), but answers %d", x, set+ahead, fires, what)
		}
		if what != 0 {
			fired, told = append(fired, ahead), append(told, what)
		} else if next != x {
			t.Errorf("%v at %d does not fire, but is %v then", x, set+ahead, next)
		}
		x = next
	}
	want := []int{}
	for n := 1; n <= impl.MaxTries; n++ {
		if set+impl.SpanOf(n) <= impl.MaxTime {
			want = append(want, impl.SpanOf(n))
		}
	}
	if !slices.Equal(fired, want) || !slices.Equal(told, []int{1, 1, 1, 1, 2}[:len(want)]) {
		t.Errorf("set at %d it fires at %v from there, not at %v, and answers %v", set, fired, want, told)
	}
	if spent := x == (impl.Timer{}); spent != (len(want) == mostTries) {
		t.Errorf("set at %d, it has fired %d times and is %v", set, len(fired), x)
	}
}

// P13.
func TestATimerFiresWhereItsSpansSayAndThenNoMore(t *testing.T) {
	for _, set := range []int{0, 1, 2, 3, 7, 8, 22, 23, 24, 255, 256, 300, 65535, 65536, 123456, 500000, lastTick / 2} {
		mustFireWhereItsSpansSay(t, set)
	}
	for set := lastTick - 50; set <= lastTick; set++ {
		mustFireWhereItsSpansSay(t, set)
	}
}

// As many are in time, of one that is set so close to the end.
func TestTimersThatAreSetCloseToTheEnd(t *testing.T) {
	for left, want := range map[int]int{0: 0, 1: 1, 2: 1, 3: 2, 6: 2, 7: 3, 14: 3, 15: 4, 22: 4, 23: 5, 24: 5} {
		x, fired := impl.TimerSet(lastTick-left), 0
		for ahead := range 60 {
			next, what := mustTimerAsTold(t, x, lastTick-left+ahead)
			fired += min(what, 1)
			x = next
		}
		if fired != want || x.On == (want == mostTries) {
			t.Errorf("set %d ahead of the end it fires %d times, not %d, and is %v", left, fired, want, x)
		}
	}
}

func TestSpans(t *testing.T) {
	for n, want := range map[int]int{-1: 0, 0: 0, 1: 1, 2: 3, 3: 7, 4: 15, 5: 23, 6: 0, 7: 0, 1 << 32: 0, 1<<32 + 1: 0, -(1 << 32) + 1: 0, math.MaxInt: 0, math.MinInt: 0, math.MinInt + 1: 0} {
		if got := impl.SpanOf(n); got != want {
			t.Errorf("SpanOf of %d is %d, not %d", n, got, want)
		}
	}
	for _, n := range append(numbers(), counting(70)...) {
		if got := impl.SpanOf(n); got != spanOf(n) {
			t.Errorf("SpanOf of %d is %d, not %d", n, got, spanOf(n))
		}
	}
}

func TestTimersAreSetInTimeAlone(t *testing.T) {
	for now, may := range edgesOfTime() {
		x := mustSetAsTold(t, now)
		if x.On != may || !may && x != (impl.Timer{}) {
			t.Errorf("TimerSet of %d is %v", now, x)
		}
	}
	for _, now := range numbers() {
		mustSetAsTold(t, now)
	}
	for now, want := range map[int]impl.Timer{0: timerOf(1, 1, 1), 10: timerOf(11, 1, 1), lastTick - 1: timerOf(lastTick, 1, 1), lastTick: timerOf(lastTick+1, 1, 1), -1: {}, lastTick + 1: {}} {
		if x := impl.TimerSet(now); x != want {
			t.Errorf("TimerSet of %d is %v, not %v", now, x, want)
		}
	}
}

func TestEachOfTheTries(t *testing.T) {
	x := impl.TimerSet(100)
	for _, want := range []impl.Timer{timerOf(103, 2, 2), timerOf(107, 4, 3), timerOf(115, 8, 4), timerOf(123, 8, 5)} {
		mustStandStill(t, x, x.Due-1)
		mustFire(t, x, x.Due, want, 1)
		x = want
	}
	mustStandStill(t, x, 122)
	mustFire(t, x, 123, impl.Timer{}, 2)
	for now := range 200 {
		mustStandStill(t, impl.Timer{}, now)
	}
}

// Asked late, it counts from where it was asked, not from where it was due.
func TestTimersThatAreAskedLate(t *testing.T) {
	for _, late := range [][]int{{0, 0, 0, 0, 0}, {1, 1, 1, 1, 1}, {0, 3, 0, 0, 9}, {7, 8, 9, 100, 1000}, {5, 0, 0, 0, 0}, {0, 0, 0, 70000, 0}, {200000, 200000, 200000, 200000, 100000}} {
		x, now := impl.TimerSet(0), 0
		for i, wait := range []int{1, 2, 4, 8, 8} {
			now += wait + late[i]
			mustStandStill(t, x, x.Due-1)
			if i == mostTries-1 {
				mustFire(t, x, now, impl.Timer{}, 2)
				break
			}
			following := []int{2, 4, 8, 8}[i]
			want := timerOf(now+following, following, i+2)
			mustFire(t, x, now, want, 1)
			x = want
		}
	}
}

// Whoever asks less often is answered no more often, and never ahead of a span.
func TestTimersThatAreAskedNowAndThen(t *testing.T) {
	for every := 1; every <= 30; every++ {
		for set := range 20 {
			x, told := impl.TimerSet(set), []int{}
			for now := set; now < set+300; now += every {
				next, what := mustTimerAsTold(t, x, now)
				if what != 0 {
					told = append(told, what)
					if now-set < spanOf(len(told)) {
						t.Errorf("set at %d, it fires for the %d-th time at %d", set, len(told), now)
					}
				}
				x = next
			}
			if !slices.Equal(told, []int{1, 1, 1, 1, 2}) || x != (impl.Timer{}) {
				t.Errorf("set at %d and asked at each %d-th, it answers %v and is %v", set, every, told, x)
			}
		}
	}
}

// At the end of time it may still be due behind it, and then it fires no more.
func TestTimersAtTheEndOfTime(t *testing.T) {
	mustFire(t, timerOf(lastTick, 4, 3), lastTick, timerOf(lastDue, 8, 4), 1)
	mustFire(t, timerOf(lastTick, 8, 4), lastTick, timerOf(lastDue, 8, 5), 1)
	mustFire(t, timerOf(0, 1, 1), lastTick, timerOf(lastTick+2, 2, 2), 1)
	mustFire(t, timerOf(lastTick, 8, 5), lastTick, impl.Timer{}, 2)
	for due := lastTick; due <= lastDue; due++ {
		for now := lastTick + 1; now <= lastDue+1; now++ {
			mustStandStill(t, timerOf(due, 8, 4), now)
			mustStandStill(t, timerOf(due, 8, 5), now)
		}
	}
	for due := lastTick + 1; due <= lastDue+1; due++ {
		mustStandStill(t, timerOf(due, 8, 5), lastTick)
	}
}

// A wait and a try need not fit each other: each is doubled, or counted, alone.
func TestWaitsAndTriesThatDoNotFit(t *testing.T) {
	for wait, following := range waitsOfTimers() {
		for tries := 1; tries < mostTries; tries++ {
			mustFire(t, timerOf(10, wait, tries), 30, timerOf(30+following, following, tries+1), 1)
			mustStandStill(t, timerOf(10, wait, tries), 9)
		}
		mustFire(t, timerOf(10, wait, mostTries), 10, impl.Timer{}, 2)
		mustStandStill(t, timerOf(10, wait, mostTries), 9)
	}
}

// numbersAsked: the edges of time, and one ahead of a Due, at it and one behind.
func numbersAsked(due int) []int {
	l := []int{due - 1, due, due + 1}
	for now := range edgesOfTime() {
		l = append(l, now)
	}
	return l
}

// Each number that is wrong beside each other one, right or wrong.
func TestTimersAtTheirEdges(t *testing.T) {
	for due, mayDue := range edgesOfDue() {
		asked := numbersAsked(due)
		for wait, mayWait := range edgesOfWait() {
			for tries, mayTry := range edgesOfTry() {
				x := timerOf(due, wait, tries)
				may := mayDue && mayWait && mayTry
				if impl.TimerOk(x) != may {
					t.Errorf("TimerOk of %v is %v", x, !may)
				}
				for _, now := range asked {
					if !may {
						mustStandStill(t, x, now)
						continue
					}
					mustTimerAsTold(t, x, now)
				}
			}
		}
	}
}

// What is not On is right when all else is 0, and fires never, whatever stands in it.
func TestTimersThatAreNotOn(t *testing.T) {
	for _, now := range numbersAsked(0) {
		mustStandStill(t, impl.Timer{}, now)
		mustStandStill(t, impl.Timer{On: true}, now)
	}
	if !impl.TimerOk(impl.Timer{}) || impl.TimerOk(impl.Timer{On: true}) {
		t.Error("the zero timer is right, one that is On and all else 0 is not")
	}
	for _, n := range append(numbers(), -1, 1, 2, 4, 5, 8, 300, lastTick, lastDue, math.MaxInt, math.MinInt) {
		for _, x := range []impl.Timer{{Due: n}, {Wait: n}, {Tries: n}, {Due: n, Wait: 1}, {Wait: 1, Tries: n}, {Due: n, Wait: n, Tries: n}} {
			if x != (impl.Timer{}) && impl.TimerOk(x) {
				t.Errorf("TimerOk of %v is true", x)
			}
			for _, now := range numbersAsked(n) {
				mustStandStill(t, x, now)
			}
		}
	}
	off := impl.Timer{Due: 1, Wait: 1, Tries: 1}
	mustStandStill(t, off, 5)
	off.On = true
	mustFire(t, off, 5, timerOf(7, 2, 2), 1)
}

// The greatest and the least number in the place of each, of one that would fire else.
func TestTimersWithNumbersThatWouldRunOver(t *testing.T) {
	for _, n := range []int{math.MaxInt, math.MaxInt - 1, math.MaxInt - longestWait, math.MinInt, math.MinInt + 1, math.MinInt + longestWait} {
		right := timerOf(5, 4, 3)
		mustStandStill(t, right, n)
		for _, now := range append(numbersAsked(n), 5, 6, 4) {
			mustStandStill(t, timerOf(n, 4, 3), now)
			mustStandStill(t, timerOf(5, n, 3), now)
			mustStandStill(t, timerOf(5, 4, n), now)
			mustStandStill(t, timerOf(n, n, n), now)
		}
		if impl.TimerSet(n) != (impl.Timer{}) || impl.SpanOf(n) != 0 {
			t.Errorf("TimerSet and SpanOf of %d are %v and %d", n, impl.TimerSet(n), impl.SpanOf(n))
		}
	}
}

func TestWhatIsLedToByTimersIsRight(t *testing.T) {
	for wait := range waitsOfTimers() {
		for tries := 1; tries <= mostTries; tries++ {
			for _, due := range []int{0, 1, 300, lastTick - 1, lastTick} {
				for _, now := range []int{0, due, due + 1, lastTick} {
					if next, what := mustTimerAsTold(t, timerOf(due, wait, tries), now); !impl.TimerOk(next) || what == 1 && next.Due <= now {
						t.Errorf("what follows %v at %d is %v", timerOf(due, wait, tries), now, next)
					}
				}
			}
		}
	}
}

// What was asked ahead, right or wrong, changes no answer behind it.
func TestTimersKeepNothing(t *testing.T) {
	x, y := timerOf(11, 1, 1), timerOf(40, 8, 5)
	for range 3 {
		mustFire(t, x, 11, timerOf(13, 2, 2), 1)
		mustStandStill(t, timerOf(math.MinInt, 3, 9), 11)
		mustFire(t, y, 40, impl.Timer{}, 2)
		mustStandStill(t, x, 10)
		mustStandStill(t, y, 39)
		mustSetAsTold(t, -1)
		mustSetAsTold(t, 10)
		if impl.SpanOf(6) != 0 || impl.SpanOf(5) != 23 {
			t.Error(impl.SpanOf(6), impl.SpanOf(5))
		}
	}
	if x != timerOf(11, 1, 1) || y != timerOf(40, 8, 5) {
		t.Error("changed:", x, y)
	}
}
