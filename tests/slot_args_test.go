package tests

import (
	"testing"

	"loop.example/g00620/impl"
)

// Promise 19, for chapter 2: every function answers at any arguments, and writes into none.

func TestSlotSum(t *testing.T) {
	for _, c := range []struct{ epoch, a, b, sum int }{
		{1, 0, 0, 12376}, {1, 2, 3, 12399}, {1000, 0, 0, 43345}, {1, impl.MaxWord, 0, 12474}, {1, 0, impl.MaxWord, 12418},
		{1000, impl.MaxWord, impl.MaxWord, 43485}, {1, 2, 17710, 65520}, {1, 0, 17715, 0}, {1, 1, 17713, 1},
	} {
		want(t, []any{c.sum, true}, impl.SlotSum, impl.Slot{Epoch: c.epoch, A: c.a, B: c.b})
	}
	for _, s := range goodSlots() {
		want(t, []any{sumOf(s), true}, impl.SlotSum, s)
	}
	for _, s := range badSlots() {
		wantZero(t, impl.SlotSum, s)
	}
}

func TestSlotLine(t *testing.T) {
	line := 1
	for epoch := 1; epoch <= 1000; epoch++ {
		want(t, []any{line, true}, impl.SlotLine, epoch)
		line = 1 - line
	}
	for _, epoch := range badEpochs {
		wantZero(t, impl.SlotLine, epoch)
	}
}

func TestNextSlot(t *testing.T) {
	for _, s := range goodSlots() {
		for _, a := range []int{0, 1, impl.MaxWord} {
			for _, b := range []int{0, 2, impl.MaxWord} {
				if s.Epoch == 1000 {
					wantZero(t, impl.NextSlot, s, a, b)
					continue
				}
				want(t, []any{impl.Slot{Epoch: s.Epoch + 1, A: a, B: b}, true}, impl.NextSlot, s, a, b)
			}
		}
	}
	want(t, []any{impl.Slot{Epoch: 1000, A: 4, B: 5}, true}, impl.NextSlot, impl.Slot{Epoch: 999}, 4, 5)
	for _, s := range badSlots() {
		wantZero(t, impl.NextSlot, s, 0, 0)
		wantZero(t, impl.NextSlot, s, 4, 5)
	}
	for _, word := range badWords {
		wantZero(t, impl.NextSlot, impl.Slot{Epoch: 1, A: 2, B: 3}, word, 5)
		wantZero(t, impl.NextSlot, impl.Slot{Epoch: 1, A: 2, B: 3}, 4, word)
		wantZero(t, impl.NextSlot, impl.Slot{Epoch: 999, A: 2, B: 3}, word, word)
	}
}

func TestWriteSlot(t *testing.T) {
	for _, m := range goodMemories() {
		for _, s := range goodSlots() {
			wantMemory(t, plainOf(m).putSlot(s.Epoch%2, s), impl.WriteSlot, m, s)
		}
		for _, s := range badSlots() {
			wantZero(t, impl.WriteSlot, m, s)
		}
	}
	for _, m := range badMemories() {
		wantZero(t, impl.WriteSlot, m, impl.Slot{Epoch: 1, A: 2, B: 3})
		wantZero(t, impl.WriteSlot, m, impl.Slot{Epoch: 2})
	}
}

// Other lines that are dirty stay so: a commit flushes its own line alone.
func TestCommitSlot(t *testing.T) {
	for _, m := range goodMemories() {
		for _, s := range goodSlots() {
			p := plainOf(m).putSlot(s.Epoch%2, s)
			p.flush(s.Epoch % 2)
			wantMemory(t, p, impl.CommitSlot, m, s)
		}
		for _, s := range badSlots() {
			wantZero(t, impl.CommitSlot, m, s)
		}
	}
	for _, m := range badMemories() {
		wantZero(t, impl.CommitSlot, m, impl.Slot{Epoch: 1, A: 2, B: 3})
		wantZero(t, impl.CommitSlot, m, impl.Slot{Epoch: 2})
	}
}

// wantSlots fails where these are not the slots of p, or the newest is not the one with that place in them (none, if it is below 0).
func wantSlots(t *testing.T, p *plain, newest int, said ...impl.Slot) {
	t.Helper()
	if tell(p.slots()) != tell(said) {
		t.Fatalf("the test itself is wrong: %v, not %v", p.slots(), said)
	}
	want(t, []any{said, true}, impl.ReadSlots, p.memory())
	if newest < 0 {
		wantZero(t, impl.NewestSlot, p.memory())
		return
	}
	want(t, []any{said[newest], true}, impl.NewestSlot, p.memory())
}

func TestReadSlots(t *testing.T) {
	one, two := impl.Slot{Epoch: 1, A: 2, B: 3}, impl.Slot{Epoch: 2, A: 4, B: 5}
	wantSlots(t, &plain{}, -1)
	wantSlots(t, mixed(), -1)
	wantSlots(t, (&plain{}).putSlot(1, one), 0, one)
	wantSlots(t, mixed().putSlot(0, two), 0, two)
	wantSlots(t, mixed().putSlot(1, one).putSlot(0, two), 0, two, one)
	three := impl.Slot{Epoch: 3}
	wantSlots(t, mixed().putSlot(1, three).putSlot(0, two), 1, two, three)
	last, before := impl.Slot{Epoch: 1000, A: impl.MaxWord, B: impl.MaxWord}, impl.Slot{Epoch: 999, A: impl.MaxWord, B: impl.MaxWord}
	wantSlots(t, (&plain{}).putSlot(0, last).putSlot(1, before), 0, last, before)
	wantSlots(t, (&plain{}).putSlot(0, last).putSlot(1, one), 0, last, one)
	wantSlots(t, (&plain{}).putSlot(0, two).putSlot(1, before), 1, two, before)
	for _, s := range goodSlots() {
		wantSlots(t, (&plain{}).putSlot(s.Epoch%2, s), 0, s)
	}
	for _, m := range badMemories() {
		wantZero(t, impl.ReadSlots, m)
		wantZero(t, impl.NewestSlot, m)
	}
}

// What stands in the cache is read, be it sure or not; what is sure alone is not.
func TestReadSlotsInCache(t *testing.T) {
	one := impl.Slot{Epoch: 1, A: 2, B: 3}
	p := (&plain{}).putSlot(1, one)
	p.flush(1)
	wantSlots(t, p, 0, one)
	p.store(4, 0)
	wantSlots(t, p, -1)
	seven := impl.Slot{Epoch: 7, A: 2, B: 3}
	wantSlots(t, p.putSlot(1, seven), 0, seven)
}

func TestReadSlotsOffByOne(t *testing.T) {
	for _, s := range goodSlots() {
		line := s.Epoch % 2
		other := impl.Slot{Epoch: 501 - line, A: 8, B: 9}
		for place := range impl.LineWords {
			for _, off := range []int{-1, 1} {
				p := (&plain{}).putSlot(line, s).putSlot(1-line, other)
				at := line*impl.LineWords + place
				if word := p.cache[at] + off; word >= 0 && word <= impl.MaxWord {
					p.store(at, word)
					wantSlots(t, p, 0, other)
				}
			}
		}
	}
}

// A sum is the very number that SlotSum tells, not one that is alike modulo 65521.
func TestReadSlotsSumRound(t *testing.T) {
	p := (&plain{}).putSlot(1, impl.Slot{Epoch: 1, A: 0, B: 17715})
	wantSlots(t, p, 0, impl.Slot{Epoch: 1, A: 0, B: 17715})
	p.store(7, 65521)
	wantSlots(t, p, -1)
}

func TestReadSlotsOtherLine(t *testing.T) {
	one, two := impl.Slot{Epoch: 1, A: 2, B: 3}, impl.Slot{Epoch: 2, A: 4, B: 5}
	wantSlots(t, (&plain{}).putSlot(0, one), -1)
	wantSlots(t, (&plain{}).putSlot(1, two), -1)
	wantSlots(t, (&plain{}).putSlot(0, one).putSlot(1, two), -1)
	wantSlots(t, (&plain{}).putSlot(0, one).putSlot(1, one), 0, one)
	wantSlots(t, (&plain{}).putSlot(0, two).putSlot(1, two), 0, two)
	for line := 2; line < impl.Lines; line++ {
		wantSlots(t, (&plain{}).putSlot(line, one), -1)
		wantSlots(t, (&plain{}).putSlot(line, two), -1)
	}
}

func TestReadSlotsNoEpoch(t *testing.T) {
	for _, epoch := range []int{0, 1001, 1002, 65534, 65535} {
		for line := range 2 {
			wantSlots(t, (&plain{}).putSlot(line, impl.Slot{Epoch: epoch, A: 2, B: 3}), -1)
			wantSlots(t, (&plain{}).putSlot(line, impl.Slot{Epoch: epoch}), -1)
		}
	}
}

// TestSlotsBehindAnyDeeds plays many writes, commits, stray stores and failures, and reads the slots behind each.
func TestSlotsBehindAnyDeeds(t *testing.T) {
	next := numbersFrom(2)
	p, m := &plain{}, impl.NewMemory()
	for step := range 10000 {
		ok := false
		s := impl.Slot{Epoch: 1 + next(1000), A: next(impl.MaxWord + 1), B: next(impl.MaxWord + 1)}
		switch next(4) {
		case 0:
			p.putSlot(s.Epoch%2, s)
			m, ok = impl.WriteSlot(m, s)
		case 1:
			p.putSlot(s.Epoch%2, s).flush(s.Epoch % 2)
			m, ok = impl.CommitSlot(m, s)
		case 2:
			at := next(8)
			p.store(at, s.A)
			m, ok = impl.Store(m, at, s.A)
		case 3:
			kept := linesIn(next(1 << 2))
			p.fail(kept)
			m, ok = impl.FailPower(m, kept)
		}
		l, read := impl.ReadSlots(m)
		if !ok || !read || tell(m) != tell(p.memory()) || tell(l) != tell(p.slots()) {
			t.Fatalf("step %d: %s in %s, not %s in %s", step, tell(l), tell(m), tell(p.slots()), tell(p.memory()))
		}
	}
}
