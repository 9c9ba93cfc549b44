package tests

import (
	"testing"

	"loop.example/g00620/impl"
)

// Promise 19, for chapter 4: every function answers at any arguments, and writes into none.

func TestGoodPairs(t *testing.T) {
	for _, l := range goodDeeds() {
		want(t, []any{true}, impl.GoodPairs, l)
	}
	for _, l := range badDeeds() {
		want(t, []any{false}, impl.GoodPairs, l)
	}
	for at := -2; at < 50; at++ {
		want(t, []any{at >= 8 && at <= 23}, impl.GoodPairs, changes(at, 1))
	}
}

func TestDeedSteps(t *testing.T) {
	for _, p := range append(settled(), unsettled()...) {
		for _, l := range goodDeeds() {
			steps := memoriesOf(p.deed(l))
			if len(steps) != 5+4*len(l) {
				t.Fatalf("the test itself is wrong: %d steps of %d pairs", len(steps), len(l))
			}
			want(t, []any{steps, true}, impl.DeedSteps, p.memory(), l)
		}
		for _, l := range badDeeds() {
			wantZero(t, impl.DeedSteps, p.memory(), l)
		}
	}
	for _, m := range notReady() {
		wantZero(t, impl.DeedSteps, m, changes(8, 5))
		wantZero(t, impl.DeedSteps, m, changes(8, 50, 15, 51, 23, 52))
	}
}

// notReady are memories in which no deed may begin: not good, or with a count that is not 0.
func notReady() []impl.Memory {
	counts, places := badLogs()
	l := append(badMemories(), memoriesOf(counts)...)
	return append(append(l, memoriesOf(places)...), memoriesOf(pending())...)
}

func TestDoDeed(t *testing.T) {
	for _, p := range append(settled(), unsettled()...) {
		for _, l := range goodDeeds() {
			steps := p.deed(l)
			wantMemory(t, steps[len(steps)-1], impl.DoDeed, p.memory(), l)
		}
		for _, l := range badDeeds() {
			wantZero(t, impl.DoDeed, p.memory(), l)
		}
	}
	for _, m := range notReady() {
		wantZero(t, impl.DoDeed, m, changes(8, 5))
		wantZero(t, impl.DoDeed, m, changes(8, 50, 15, 51, 23, 52))
	}
}

// A deed flushes its own lines alone, and leaves what it wrote into the log.
func TestDoDeedLeaves(t *testing.T) {
	p := mixed()
	p.store(firstEntry, 8, 21)
	p.flush(7)
	p.store(firstEntry+4, 13, 35)
	p.flush(8)
	p.store(countPlace, 0)
	p.flush(countLine)
	p.store(8, 5)
	p.store(13, 6)
	p.flush(2)
	p.flush(3)
	wantMemory(t, p, impl.DoDeed, mixed().memory(), changes(8, 5, 13, 6))
}

func TestRecoverDeed(t *testing.T) {
	for _, l := range [][]*plain{settled(), unsettled(), pending()} {
		for _, p := range l {
			wantMemory(t, p.undone(), impl.RecoverDeed, p.memory())
		}
	}
	for _, l := range goodDeeds() {
		for _, p := range oneToSixteen().deed(l) {
			wantMemory(t, p.undone(), impl.RecoverDeed, p.memory())
		}
	}
	counts, places := badLogs()
	for _, p := range append(counts, places...) {
		wantZero(t, impl.RecoverDeed, p.memory())
	}
	for _, m := range badMemories() {
		wantZero(t, impl.RecoverDeed, m)
	}
}

// The entries count in their order: of two with one place the later one stays.
func TestRecoverDeedOnePlace(t *testing.T) {
	p := counted(2, changes(10, 100, 10, 101)...)
	m := recovered(t, p.memory())
	if data := dataOf(t, m); data[2] != 101 {
		t.Fatal(data)
	}
}

func TestPendingIn(t *testing.T) {
	for many := range impl.MaxPairs + 1 {
		want(t, []any{many, true}, impl.PendingIn, counted(many, changes(8, 1, 9, 2, 10, 3)...).memory())
		dirty := mixed()
		dirty.store(countPlace, many)
		want(t, []any{many, true}, impl.PendingIn, dirty.memory())
	}
	for _, p := range append(settled(), unsettled()...) {
		want(t, []any{0, true}, impl.PendingIn, p.memory())
	}
	counts, places := badLogs()
	for _, p := range counts {
		wantZero(t, impl.PendingIn, p.memory())
	}
	// The count alone is asked for, not whether the places are such.
	for _, p := range append(pending(), places...) {
		want(t, []any{p.cache[countPlace], true}, impl.PendingIn, p.memory())
	}
	for _, m := range badMemories() {
		wantZero(t, impl.PendingIn, m)
	}
}

func TestDataOf(t *testing.T) {
	want(t, []any{[]int{1, 2, 3, 4, 5, 6, 7, 8, 9, 10, 11, 12, 13, 14, 15, 16}, true}, impl.DataOf, oneToSixteen().memory())
	want(t, []any{[]int{21, 22, 23, 24, 31, 35, 33, 36, 0, impl.MaxWord, 0, 0, 0, 0, 0, 0}, true}, impl.DataOf, mixed().memory())
	for _, m := range goodMemories() {
		want(t, []any{plainOf(m).data(), true}, impl.DataOf, m)
	}
	counts, places := badLogs()
	for _, p := range append(append(counts, places...), pending()...) {
		want(t, []any{p.data(), true}, impl.DataOf, p.memory())
	}
	for _, m := range badMemories() {
		wantZero(t, impl.DataOf, m)
	}
}

func TestFailDeed(t *testing.T) {
	for _, p := range append(settled(), mixed()) {
		for _, l := range goodDeeds() {
			steps := p.deed(l)
			for step, at := range steps {
				for _, kept := range [][]int{nil, {}, {0}, {2, 3}, {countLine}, {11}, allLines()} {
					fallen := at.copied()
					fallen.fail(kept)
					wantMemory(t, fallen.undone(), impl.FailDeed, p.memory(), l, step, kept)
				}
			}
			for _, step := range append([]int{-2, -1, len(steps), len(steps) + 1, 100}, farOff...) {
				wantZero(t, impl.FailDeed, p.memory(), l, step, []int(nil))
				wantZero(t, impl.FailDeed, p.memory(), l, step, allLines())
			}
			for _, kept := range badKept {
				wantZero(t, impl.FailDeed, p.memory(), l, 0, kept)
				wantZero(t, impl.FailDeed, p.memory(), l, len(steps)-1, kept)
			}
		}
	}
	for _, l := range badDeeds() {
		wantZero(t, impl.FailDeed, oneToSixteen().memory(), l, 0, []int(nil))
		wantZero(t, impl.FailDeed, mixed().memory(), l, 3, allLines())
	}
	for _, m := range notReady() {
		wantZero(t, impl.FailDeed, m, changes(8, 5), 0, []int(nil))
		wantZero(t, impl.FailDeed, m, changes(8, 50, 15, 51, 23, 52), 16, allLines())
	}
}

// Where the line of the count was dirty what is sure of it comes back with the failure: a count or a place that is none is no log.
func TestFailDeedHiddenLog(t *testing.T) {
	for _, p := range []*plain{counted(9), counted(1, changes(7, 1)...), counted(2, changes(8, 1, 24, 2)...)} {
		p.store(countPlace, 0)
		m, l := p.memory(), changes(8, 5)
		wantZero(t, impl.FailDeed, m, l, 0, []int(nil))
		wantZero(t, impl.FailDeed, m, l, 0, []int{0, 2, 7})
		p.flush(countLine)
		wantMemory(t, p, impl.FailDeed, m, l, 0, []int{countLine})
	}
}
