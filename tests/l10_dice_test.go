package tests

import (
	"bytes"
	"encoding/hex"
	"math"
	"slices"
	"testing"

	"loop.example/g00478/impl"
)

const (
	mostRolls   = 10000
	sizeOfNonce = 12
)

// The reading of the chapter, the library's way, for whatever comes.

func seedIsRight(seed []byte) bool {
	return len(seed) > 0 && len(seed) < 33
}

func diceAreRight(d impl.Dice) bool {
	return seedIsRight(d.Seed) && d.N > -1 && d.N < mostRolls+1
}

func diceAtOf(seed []byte, n int) []byte {
	if !diceAreRight(impl.Dice{Seed: seed, N: n}) {
		return nil
	}
	sum := hmacOf(seed, []byte{'r', 'o', 'l', 'l', 0, 0, byte(n / 256), byte(n % 256)})
	return sum[:sizeOfNonce]
}

func rollOf(d impl.Dice) (impl.Dice, []byte) {
	if !diceAreRight(d) || d.N == mostRolls {
		return d, nil
	}
	return impl.Dice{Seed: d.Seed, N: d.N + 1}, diceAtOf(d.Seed, d.N)
}

func windOf(d impl.Dice, n int) impl.Dice {
	wound := impl.Dice{Seed: d.Seed, N: n}
	if !diceAreRight(d) || !diceAreRight(wound) {
		return d
	}
	return wound
}

func sameDice(a impl.Dice, b impl.Dice) bool {
	return a.N == b.N && bytes.Equal(a.Seed, b.Seed)
}

func mustDiceAtAsTold(t *testing.T, seed []byte, n int) []byte {
	t.Helper()
	got := impl.DiceAt(seed, n)
	if want := diceAtOf(seed, n); !bytes.Equal(got, want) {
		t.Errorf("DiceAt of %x and %d is %x, not %x", seed, n, got, want)
	}
	return got
}

func mustRollAsTold(t *testing.T, d impl.Dice) (impl.Dice, []byte) {
	t.Helper()
	next, rolled := impl.Roll(d)
	if want, bytesOf := rollOf(d); !sameDice(next, want) || !bytes.Equal(rolled, bytesOf) {
		t.Errorf("Roll of %v is %v, %x, not %v, %x", d, next, rolled, want, bytesOf)
	}
	return next, rolled
}

func mustWindAsTold(t *testing.T, d impl.Dice, n int) impl.Dice {
	t.Helper()
	got := impl.Wind(d, n)
	if want := windOf(d, n); !sameDice(got, want) {
		t.Errorf("Wind of %v to %d is %v, not %v", d, n, got, want)
	}
	return got
}

// mustDiceAsTold: all that the chapter answers of d, wound to n.
func mustDiceAsTold(t *testing.T, d impl.Dice, n int) {
	t.Helper()
	if got := impl.DiceOk(d); got != diceAreRight(d) {
		t.Errorf("DiceOk of %v is %v", d, got)
	}
	mustDiceAtAsTold(t, d.Seed, d.N)
	mustDiceAtAsTold(t, d.Seed, n)
	mustRollAsTold(t, d)
	mustRollAsTold(t, mustWindAsTold(t, d, n))
}

// mustNotRoll: dice that come back as they are, with nothing.
func mustNotRoll(t *testing.T, d impl.Dice) {
	t.Helper()
	if next, rolled := mustRollAsTold(t, d); !sameDice(next, d) || len(rolled) != 0 {
		t.Errorf("Roll of %v is %v, %x", d, next, rolled)
	}
}

func mustNotWind(t *testing.T, d impl.Dice, n int) {
	t.Helper()
	if got := mustWindAsTold(t, d, n); !sameDice(got, d) {
		t.Errorf("Wind of %v to %d is %v", d, n, got)
	}
}

// edgesOfSeed, edgesOfRoll: which are right, at the edges that the chapter has and on both sides of them.
func edgesOfSeed() map[int]bool {
	return map[int]bool{0: false, 1: true, 2: true, 12: true, 31: true, 32: true, 33: false, 64: false, 65: false}
}

func edgesOfRoll() map[int]bool {
	return map[int]bool{-2: false, -1: false, 0: true, 1: true, 255: true, 256: true, mostRolls - 1: true, mostRolls: true, mostRolls + 1: false, 1 << 32: false, 1<<32 + 1: false, -(1 << 32): false, math.MaxInt: false, math.MaxInt - 1: false, math.MinInt: false, math.MinInt + 1: false}
}

func TestLimitOfRolls(t *testing.T) {
	if impl.MaxRoll != mostRolls || impl.NonceLen != sizeOfNonce {
		t.Error(impl.MaxRoll, impl.NonceLen)
	}
}

func TestKnownRolls(t *testing.T) {
	for _, c := range []struct {
		seed []byte
		n    int
		want string
	}{
		{[]byte{0}, 0, "a6aa24ef88ac3b7abeef0435"},
		{[]byte("s"), 0, "496a114727244d8cd4b3b533"},
		{[]byte("s"), 1, "a4f399ef3315de291d06506e"},
		{[]byte("s"), 9999, "277a278bf2ec4bd79e134f95"},
		{[]byte("twelve bytes"), 256, "f68a2780fcfbdeabd001c8bd"},
		{counted(0, 32), 0, "4aa3bf20f66741f17d3c56cb"},
		{counted(0, 32), 258, "22b2b71900dccd13d20e7e9a"},
		{bytes.Repeat([]byte{255}, 32), 9999, "6f57f3f3402c7e47ea244400"},
	} {
		if got := hex.EncodeToString(impl.DiceAt(c.seed, c.n)); got != c.want {
			t.Errorf("DiceAt of %x and %d is %s, not %s", c.seed, c.n, got, c.want)
		}
		next, rolled := impl.Roll(impl.Dice{Seed: c.seed, N: c.n})
		if got := hex.EncodeToString(rolled); got != c.want || !sameDice(next, impl.Dice{Seed: c.seed, N: c.n + 1}) {
			t.Errorf("Roll of %x and %d is %v, %s, not %s", c.seed, c.n, next, got, c.want)
		}
	}
}

// Of the last N there is a DiceAt, but no roll.
func TestTheLastRoll(t *testing.T) {
	for _, seed := range [][]byte{[]byte("s"), counted(0, 32)} {
		d := impl.Dice{Seed: seed, N: mostRolls - 1}
		d, rolled := impl.Roll(d)
		if d.N != mostRolls || !bytes.Equal(rolled, diceAtOf(seed, mostRolls-1)) || len(rolled) != sizeOfNonce {
			t.Errorf("the last roll of %x is %v, %x", seed, d, rolled)
		}
		if !impl.DiceOk(d) || len(impl.DiceAt(seed, mostRolls)) != sizeOfNonce {
			t.Errorf("behind the last roll %v are not right", d)
		}
		for range 3 {
			mustNotRoll(t, d)
		}
		if back := mustWindAsTold(t, d, mostRolls-1); !sameDice(back, impl.Dice{Seed: seed, N: mostRolls - 1}) {
			t.Errorf("wound back by one they are %v", back)
		}
	}
	if got := hex.EncodeToString(impl.DiceAt([]byte("s"), mostRolls)); got != "697e19a48318d37fbf2274da" {
		t.Errorf("DiceAt of MaxRoll is %s", got)
	}
	if got := hex.EncodeToString(impl.DiceAt(counted(0, 32), mostRolls)); got != "eb160d19f4b4b11da5dca826" {
		t.Errorf("DiceAt of MaxRoll is %s", got)
	}
}

// Each seed at its edges beside each N at its own, wound to each n at its own.
func TestDiceAtTheirEdges(t *testing.T) {
	for size, seedFits := range edgesOfSeed() {
		for n, rollFits := range edgesOfRoll() {
			d := impl.Dice{Seed: roomy(counted(7, size)...), N: n}
			if got := impl.DiceOk(d); got != (seedFits && rollFits) {
				t.Errorf("DiceOk of a seed of %d bytes and %d is %v", size, n, got)
			}
			if got := impl.DiceAt(d.Seed, n); (len(got) == sizeOfNonce) != (seedFits && rollFits) || len(got) != 0 && len(got) != sizeOfNonce {
				t.Errorf("DiceAt of a seed of %d bytes and %d is %x", size, n, got)
			}
			for to, fits := range edgesOfRoll() {
				mustDiceAsTold(t, d, to)
				if !seedFits || !rollFits || !fits {
					mustNotWind(t, d, to)
				} else if got := impl.Wind(d, to); got.N != to {
					t.Errorf("Wind of %v to %d is %v", d, to, got)
				}
			}
			if !seedFits || !rollFits || n == mostRolls {
				mustNotRoll(t, d)
			}
		}
	}
}

func TestEachSizeOfASeed(t *testing.T) {
	for size := range 70 {
		for _, seed := range [][]byte{counted(200, size), make([]byte, size), bytes.Repeat([]byte{255}, size)} {
			if got := impl.DiceOk(impl.Dice{Seed: seed}); got != (size >= 1 && size <= 32) {
				t.Errorf("DiceOk of a seed of %d bytes is %v", size, got)
			}
			mustDiceAsTold(t, impl.Dice{Seed: seed}, 5)
		}
	}
	for _, size := range []int{256, 257, 288, 1000, impl.MaxSha, impl.MaxSha + 1} {
		mustNotRoll(t, impl.Dice{Seed: pattern(size)})
		mustNotWind(t, impl.Dice{Seed: pattern(size)}, 5)
		mustDiceAtAsTold(t, pattern(size), 0)
	}
}

func TestTheZeroDice(t *testing.T) {
	for _, zero := range []impl.Dice{{}, {Seed: []byte{}}, {Seed: roomy()}} {
		if impl.DiceOk(zero) {
			t.Error("the zero dice are right")
		}
		mustNotRoll(t, zero)
		for _, n := range []int{0, 5, mostRolls, mostRolls + 1, -1} {
			mustNotWind(t, zero, n)
			mustDiceAtAsTold(t, zero.Seed, n)
		}
	}
}

// Dice that are not right stay so: a right n does not mend them.
func TestWrongDiceAreNotWound(t *testing.T) {
	for _, n := range []int{-1, mostRolls + 1, math.MinInt, math.MaxInt} {
		for _, to := range []int{0, 1, 5, mostRolls} {
			mustNotWind(t, impl.Dice{Seed: []byte("s"), N: n}, to)
			mustNotWind(t, impl.Dice{Seed: []byte("s"), N: to}, n)
			mustNotWind(t, impl.Dice{N: n}, to)
		}
		mustNotRoll(t, impl.Dice{Seed: []byte("s"), N: n})
	}
}

// rollsOf: so many rolls, one behind the other; of each one it is asked whether N is one more, and what is rolled is what DiceAt says.
func rollsOf(t *testing.T, d impl.Dice, n int) (impl.Dice, [][]byte) {
	t.Helper()
	rolls := [][]byte{}
	for range n {
		next, rolled := mustRollAsTold(t, d)
		if next.N != d.N+1 || !bytes.Equal(next.Seed, d.Seed) || !impl.DiceOk(next) {
			t.Errorf("behind a roll %v are %v", d, next)
		}
		if len(rolled) != sizeOfNonce || !bytes.Equal(rolled, impl.DiceAt(d.Seed, d.N)) {
			t.Errorf("of %v are rolled %x", d, rolled)
		}
		d, rolls = next, append(rolls, rolled)
	}
	return d, rolls
}

func sameRolls(a [][]byte, b [][]byte) bool {
	return slices.EqualFunc(a, b, bytes.Equal)
}

// P10: from wherever they are wound back, dice roll the same again, in order.
func TestDiceThatAreWoundBackRollTheSameAgain(t *testing.T) {
	for _, seed := range [][]byte{{0}, []byte("s"), []byte("twelve bytes"), make([]byte, 32), counted(1, 31), bytes.Repeat([]byte{255}, 32)} {
		for _, from := range []int{0, 1, 254, 1000, mostRolls - 20} {
			start := impl.Dice{Seed: roomy(seed...), N: from}
			end, rolls := rollsOf(t, start, 20)
			for back := range 21 {
				wound := impl.Wind(end, from+back)
				if !sameDice(wound, impl.Dice{Seed: seed, N: from + back}) {
					t.Fatalf("%v, wound back to %d, are %v", end, from+back, wound)
				}
				again, same := rollsOf(t, wound, 20-back)
				if !sameRolls(same, rolls[back:]) || !sameDice(again, end) {
					t.Errorf("%v, wound back to %d, roll %x, not %x", end, from+back, same, rolls[back:])
				}
			}
		}
	}
}

// Wound ahead they roll what they would have rolled there, and wound back from there what they would have here.
func TestDiceThatAreWoundAheadRollWhatComes(t *testing.T) {
	d := impl.Dice{Seed: []byte("ahead")}
	_, all := rollsOf(t, d, 300)
	for _, ahead := range []int{0, 1, 7, 255, 256, 257, 290} {
		wound := impl.Wind(d, ahead)
		_, rolls := rollsOf(t, wound, 10)
		if !sameRolls(rolls, all[ahead:ahead+10]) {
			t.Errorf("wound ahead to %d they roll %x", ahead, rolls)
		}
		for _, far := range []int{mostRolls, mostRolls - 1, 0} {
			if _, back := rollsOf(t, impl.Wind(impl.Wind(wound, far), ahead), 10); !sameRolls(back, rolls) {
				t.Errorf("wound to %d and back to %d they roll %x", far, ahead, back)
			}
		}
	}
	if got := impl.Wind(d, mostRolls+1); !sameDice(got, d) {
		t.Errorf("wound past the last roll they are %v", got)
	}
}

// All that one seed rolls is unlike, and unlike what others roll.
func TestRollsAreUnlike(t *testing.T) {
	met := map[string]int{}
	seeds := [][]byte{{1}, []byte("s"), []byte("s\x01"), []byte("roll"), counted(0, 32), counted(1, 32)}
	for _, seed := range seeds {
		for n := range 600 {
			met[string(impl.DiceAt(seed, n))]++
		}
	}
	for n := range mostRolls + 1 {
		met[string(impl.DiceAt([]byte("all of them"), n))]++
	}
	if want := len(seeds)*600 + mostRolls + 1; len(met) != want {
		t.Errorf("there are %d rolls, not %d", len(met), want)
	}
}

func TestRollsHangOnEachByteOfTheSeed(t *testing.T) {
	for _, size := range []int{1, 2, 31, 32} {
		seed := pattern(size)
		was := impl.DiceAt(seed, 3)
		for i := range seed {
			seed[i] ^= 1
			if bytes.Equal(impl.DiceAt(seed, 3), was) {
				t.Errorf("the byte %d of %d does not count", i, size)
			}
			seed[i] ^= 1
		}
	}
}

func diceToWatch() []impl.Dice {
	l := []impl.Dice{}
	for _, size := range []int{0, 1, 12, 32, 33} {
		for _, n := range []int{-1, 0, 7, mostRolls - 1, mostRolls, mostRolls + 1} {
			l = append(l, impl.Dice{Seed: counted(50, size), N: n})
		}
	}
	return l
}

// listsOfDice: all lists that are answered of d, of what is refused too.
func listsOfDice(d impl.Dice) [][]byte {
	next, rolled := impl.Roll(d)
	return [][]byte{impl.DiceAt(d.Seed, d.N), impl.DiceAt(d.Seed, 0), next.Seed, rolled, impl.Wind(d, 5).Seed, impl.Wind(d, d.N).Seed, impl.Wind(d, -1).Seed}
}

func TestDiceWriteIntoNoArgumentAndShareNone(t *testing.T) {
	for _, was := range diceToWatch() {
		d := impl.Dice{Seed: roomy(was.Seed...), N: was.N}
		impl.DiceOk(d)
		answers := listsOfDice(d)
		mustBeUntouched(t, "the seed, asked", d.Seed, was.Seed...)
		for _, a := range answers {
			scribble(a)
		}
		mustBeUntouched(t, "the seed, with its answers written over", d.Seed, was.Seed...)
	}
}

// An answer stays as it was when its argument and all other lists that are answered are written over.
func TestListsOfDiceShareNone(t *testing.T) {
	for _, was := range diceToWatch() {
		want := listsOfDice(was)
		for i := range want {
			d := impl.Dice{Seed: roomy(was.Seed...), N: was.N}
			answers := listsOfDice(d)
			for j, a := range append(answers, listsOfDice(d)...) {
				if j != i {
					scribble(a)
				}
			}
			scribble(d.Seed)
			if !bytes.Equal(answers[i], want[i]) {
				t.Errorf("the list %d of %v is %x now, not %x", i, was, answers[i], want[i])
			}
		}
	}
}

// Dice that are handed in stay where they are: rolled again, they roll the same.
func TestDiceKeepNothing(t *testing.T) {
	d := impl.Dice{Seed: []byte("s"), N: 3}
	for range 3 {
		next, rolled := mustRollAsTold(t, d)
		if !sameDice(d, impl.Dice{Seed: []byte("s"), N: 3}) || next.N != 4 {
			t.Errorf("%v are %v behind a roll", d, next)
		}
		scribble(rolled)
		scribble(next.Seed)
		mustNotRoll(t, impl.Dice{})
		mustNotRoll(t, impl.Dice{Seed: []byte("s"), N: mostRolls})
		mustNotWind(t, d, mostRolls+1)
		mustWindAsTold(t, d, 9)
		scribble(impl.DiceAt(d.Seed, 3))
	}
}
