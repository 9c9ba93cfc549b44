package tests

import (
	"slices"
	"testing"

	"loop.example/g00620/impl"
)

// Promise 19, for chapter 12: every function answers at any arguments, and writes into none.

func TestNewRing(t *testing.T) {
	for at := range countValues {
		want(t, []any{impl.Ring{Cells: make([]int, cellCount), Head: at, Tail: at}, true}, impl.NewRing, at)
	}
	for _, at := range badRingCounts {
		wantZero(t, impl.NewRing, at)
	}
	if impl.RingRoom != cellCount || impl.MaxRing != ringStepMost || impl.RgPut != 1 || impl.RgTake != 2 {
		t.Fatal(impl.RingRoom, impl.MaxRing, impl.RgPut, impl.RgTake)
	}
}

func TestGoodRing(t *testing.T) {
	for _, p := range goodTapes() {
		want(t, []any{true}, impl.GoodRing, p.ring())
	}
	for _, r := range badRings() {
		want(t, []any{false}, impl.GoodRing, r)
	}
}

// How far Tail may be ahead of each Head, and how many cells and which words there may be.
func TestGoodRingEdges(t *testing.T) {
	ahead := map[[2]int]bool{}
	for head := range countValues {
		for more := range cellCount + 1 {
			ahead[[2]int{head, (head + more) % countValues}] = true
		}
	}
	for head := -countValues - 2; head <= 2*countValues+2; head++ {
		for tail := -countValues - 2; tail <= 2*countValues+2; tail++ {
			r := impl.Ring{Cells: []int{0, 1, 65534, wordMost}, Head: head, Tail: tail}
			want(t, []any{ahead[[2]int{head, tail}]}, impl.GoodRing, r)
		}
	}
	for many := range 3 * cellCount {
		want(t, []any{many == cellCount}, impl.GoodRing, impl.Ring{Cells: make([]int, many), Head: 7, Tail: 2})
	}
	for k := range cellCount {
		for _, word := range append([]int{0, 1, 65534, wordMost}, badRingWords...) {
			for head := range countValues {
				cells := []int{5, 0, wordMost, 6}
				cells[k] = word
				// A cell where nothing waits has a word too.
				want(t, []any{word >= 0 && word <= wordMost}, impl.GoodRing, impl.Ring{Cells: cells, Head: head, Tail: head})
			}
		}
	}
}

func TestCountIn(t *testing.T) {
	for _, p := range goodTapes() {
		want(t, []any{len(p.waiting()), true}, impl.CountIn, p.ring())
	}
	for _, r := range badRings() {
		wantZero(t, impl.CountIn, r)
	}
}

func TestWaitingIn(t *testing.T) {
	for _, p := range goodTapes() {
		want(t, []any{p.waiting(), true}, impl.WaitingIn, p.ring())
	}
	for _, r := range badRings() {
		wantZero(t, impl.WaitingIn, r)
	}
}

// The cells are told by their place alone, whatever was put there.
func TestWaitingInPlaces(t *testing.T) {
	cells := []int{10, 11, 12, 13}
	for _, one := range []struct {
		head, tail int
		words      []int
	}{
		{0, 0, nil}, {0, 1, []int{10}}, {0, 4, []int{10, 11, 12, 13}}, {3, 4, []int{13}}, {3, 5, []int{13, 10}},
		{4, 4, nil}, {4, 0, []int{10, 11, 12, 13}}, {5, 1, []int{11, 12, 13, 10}}, {7, 7, nil}, {7, 0, []int{13}},
		{7, 3, []int{13, 10, 11, 12}}, {6, 1, []int{12, 13, 10}}, {2, 6, []int{12, 13, 10, 11}}, {2, 3, []int{12}},
	} {
		r := impl.Ring{Cells: cells, Head: one.head, Tail: one.tail}
		want(t, []any{one.words, true}, impl.WaitingIn, r)
		want(t, []any{len(one.words), true}, impl.CountIn, r)
	}
}

func TestStepRing(t *testing.T) {
	for _, p := range goodTapes() {
		for _, s := range []impl.RingStep{putStep(0), putStep(1), putStep(4711), putStep(wordMost), takeStep} {
			after, answer := p.stepped(s)
			if answer == -1 {
				wantZero(t, impl.StepRing, p.ring(), s)
			} else {
				want(t, []any{after.ring(), answer, true}, impl.StepRing, p.ring(), s)
			}
		}
	}
}

func TestStepRingWrong(t *testing.T) {
	for k, p := range goodTapes() {
		for n, s := range badRingSteps() {
			if (k+n)%4 == 0 {
				wantZero(t, impl.StepRing, p.ring(), s)
			}
		}
	}
	for _, r := range badRings() {
		for _, s := range []impl.RingStep{putStep(0), putStep(wordMost), takeStep, {}} {
			wantZero(t, impl.StepRing, r, s)
		}
	}
}

// ringLists are lists of steps, from none to as many as may be; not all of their steps may be done.
func ringLists() [][]impl.RingStep {
	l := [][]impl.RingStep{
		nil,
		{},
		{takeStep},
		{putStep(0)},
		{putStep(wordMost), takeStep, takeStep},
		{putStep(1), putStep(2), putStep(3), putStep(4), putStep(5), takeStep, putStep(6), takeStep},
		slices.Repeat([]impl.RingStep{takeStep}, ringStepMost),
		slices.Repeat([]impl.RingStep{putStep(8)}, ringStepMost),
		slices.Repeat([]impl.RingStep{putStep(8), takeStep}, ringStepMost/2),
		make([]impl.RingStep, ringStepMost),
	}
	next := numbersFrom(123)
	for many := range ringStepMost + 1 {
		l = append(l, mixedRingSteps(many, 2+many%8, next))
	}
	return l
}

func TestPlayRing(t *testing.T) {
	for _, l := range ringLists() {
		for at := range countValues {
			p, answers := tapeBehind(at, l)
			want(t, []any{p.ring(), answers, true}, impl.PlayRing, at, l)
		}
		for _, at := range badRingCounts {
			wantZero(t, impl.PlayRing, at, l)
		}
	}
	for _, many := range tooManyRingSteps {
		for at := range countValues {
			wantZero(t, impl.PlayRing, at, slices.Repeat([]impl.RingStep{putStep(8), takeStep}, many)[:many])
			wantZero(t, impl.PlayRing, at, make([]impl.RingStep, many))
		}
	}
}

var tooManyRingSteps = []int{ringStepMost + 1, ringStepMost + 2, 2 * ringStepMost, 1000}

func TestPlayQueue(t *testing.T) {
	for _, l := range ringLists() {
		p, answers := tapeBehind(0, l)
		want(t, []any{answers, p.waiting(), true}, impl.PlayQueue, l)
	}
	for _, many := range tooManyRingSteps {
		wantZero(t, impl.PlayQueue, slices.Repeat([]impl.RingStep{putStep(8), takeStep}, many)[:many])
		wantZero(t, impl.PlayQueue, make([]impl.RingStep, many))
	}
}

// A step that may not be done answers -1 wherever it stands, and changes nothing.
func TestPlayedBadRingSteps(t *testing.T) {
	good := []impl.RingStep{putStep(5), putStep(0), takeStep, putStep(wordMost), putStep(7), putStep(8), takeStep}
	said := []int{0, 0, 5, 0, 0, 0, 0}
	left := []int{wordMost, 7, 8}
	for k, s := range badRingSteps() {
		for at := range countValues {
			place := (k + at) % (len(good) + 1)
			l, answers := slices.Insert(slices.Clone(good), place, s), slices.Insert(slices.Clone(said), place, -1)
			p := tape{at: at, words: []int{5, 0, wordMost, 7, 8}, taken: 2}
			want(t, []any{p.ring(), answers, true}, impl.PlayRing, at, l)
			want(t, []any{answers, left, true}, impl.PlayQueue, l)
		}
	}
}
