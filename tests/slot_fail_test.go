package tests

import (
	"testing"

	"loop.example/g00620/impl"
)

// Promise 2: behind a failure in the midst of a commit, of a memory where
// nothing else is dirty, the newest slot is the old one or the new one.

// oldSlots are slots whose next one goes to line 0, and such whose next one goes to line 1.
var oldSlots = []impl.Slot{
	{Epoch: 1}, {Epoch: 1, A: 2, B: 3}, {Epoch: 2, A: impl.MaxWord, B: impl.MaxWord}, {Epoch: 3, A: 5},
	{Epoch: 500, B: 9}, {Epoch: 998, A: 7, B: 8}, {Epoch: 999, A: impl.MaxWord},
}

// withOld is a memory with a slot committed, and the one before it too, if there is one.
func withOld(t *testing.T, old impl.Slot) impl.Memory {
	t.Helper()
	m := impl.NewMemory()
	if old.Epoch > 1 {
		m = committed(t, m, impl.Slot{Epoch: old.Epoch - 1, A: 77, B: 78})
	}
	return committed(t, m, old)
}

func TestSlotAheadOfFlush(t *testing.T) {
	for _, old := range oldSlots {
		next := nextOf(t, old, 41, 42)
		m := written(t, withOld(t, old), next)
		wantNewest(t, next, m)
		its, other := next.Epoch%2, old.Epoch%2
		wantNewest(t, old, failed(t, m))
		wantNewest(t, old, failed(t, m, other))
		wantNewest(t, old, failed(t, m, other, 2, 3, 11))
		wantNewest(t, next, failed(t, m, its))
		wantNewest(t, next, failed(t, m, 0, 1))
		wantNewest(t, next, failed(t, m, allLines()...))
	}
}

func TestSlotBehindFlush(t *testing.T) {
	for _, old := range oldSlots {
		next := nextOf(t, old, 41, 42)
		m := committed(t, withOld(t, old), next)
		wantNewest(t, next, m)
		for _, kept := range [][]int{nil, {0}, {1}, {0, 1}, allLines()} {
			wantNewest(t, next, failed(t, m, kept...))
		}
		if l, ok := impl.ReadSlots(failed(t, m)); !ok || len(l) != 2 {
			t.Fatal("the old slot did not stay", l, ok)
		}
	}
}

// A failure between two words of a slot leaves the old one, also where what is there of the new one was kept.
func TestSlotTorn(t *testing.T) {
	for _, old := range oldSlots {
		next := nextOf(t, old, 41, 42)
		words := []int{next.Epoch, next.A, next.B, sumOf(next)}
		for many := range len(words) {
			m := stored(t, withOld(t, old), next.Epoch%2*impl.LineWords, words[:many]...)
			for _, kept := range [][]int{nil, {0}, {1}, {0, 1}} {
				wantNewest(t, old, failed(t, m, kept...))
			}
		}
		m := stored(t, withOld(t, old), next.Epoch%2*impl.LineWords, words...)
		wantNewest(t, next, failed(t, m, next.Epoch%2))
	}
}

func TestSlotFirst(t *testing.T) {
	for _, first := range []impl.Slot{{Epoch: 1, A: 2, B: 3}, {Epoch: 2, A: 2, B: 3}} {
		m := written(t, impl.NewMemory(), first)
		its, other := first.Epoch%2, 1-first.Epoch%2
		wantZero(t, impl.NewestSlot, failed(t, m))
		wantZero(t, impl.NewestSlot, failed(t, m, other))
		wantNewest(t, first, failed(t, m, its))
		wantNewest(t, first, failed(t, committed(t, impl.NewMemory(), first)))
	}
}

// A slot that is not the next one may go to the line of the newest one; line by line it is still the old one or the new one.
func TestSlotOverNewest(t *testing.T) {
	old, later := impl.Slot{Epoch: 4, A: 5, B: 6}, impl.Slot{Epoch: 6, A: 7, B: 8}
	m := written(t, withOld(t, old), later)
	wantNewest(t, old, failed(t, m))
	wantNewest(t, later, failed(t, m, 0))
	wantNewest(t, later, failed(t, committed(t, withOld(t, old), later)))
}

func TestSlotAnyKept(t *testing.T) {
	for _, old := range []impl.Slot{{Epoch: 6, A: 1, B: 2}, {Epoch: 7, A: 1, B: 2}} {
		next := nextOf(t, old, 41, 42)
		m, done := written(t, withOld(t, old), next), committed(t, withOld(t, old), next)
		for mask := range 1 << impl.Lines {
			said := old
			if mask>>(next.Epoch%2)&1 == 1 {
				said = next
			}
			wantNewest(t, said, failed(t, m, linesIn(mask)...))
			wantNewest(t, next, failed(t, done, linesIn(mask)...))
		}
	}
}

// TestSlotAllEpochs commits slots up to the last Epoch, each only at the third attempt.
func TestSlotAllEpochs(t *testing.T) {
	s := impl.Slot{Epoch: 1}
	m := committed(t, impl.NewMemory(), s)
	for epoch := 2; epoch <= 1000; epoch++ {
		next := nextOf(t, s, epoch*65%impl.MaxWord, impl.MaxWord-epoch)
		m = failed(t, written(t, m, next))
		wantNewest(t, s, m)
		m = failed(t, written(t, m, next), 1-epoch%2)
		wantNewest(t, s, m)
		if epoch%3 == 0 {
			m = failed(t, written(t, m, next), epoch%2)
		} else {
			m = failed(t, committed(t, m, next))
		}
		wantNewest(t, next, m)
		s = next
	}
	wantZero(t, impl.NextSlot, s, 0, 0)
}
