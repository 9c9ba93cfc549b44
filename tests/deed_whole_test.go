package tests

import (
	"slices"
	"testing"

	"loop.example/g00620/impl"
)

// Promise 4: a deed in a memory where nothing is dirty that fails anywhere,
// whatever was kept, is done as a whole or not at all.

// linesOfDeed are the lines that a deed stores to, and one that it does not.
func linesOfDeed(l []impl.Pair) []int {
	lines := []int{0, countLine}
	for k, p := range l {
		lines = append(lines, 7+k, p.At/4)
	}
	slices.Sort(lines)
	return slices.Compact(lines)
}

// keptOf tells all choices among these lines.
func keptOf(lines []int) [][]int {
	var all [][]int
	for mask := range 1 << len(lines) {
		var kept []int
		for k, line := range lines {
			if mask>>k&1 == 1 {
				kept = append(kept, line)
			}
		}
		all = append(all, kept)
	}
	return append(all, allLines())
}

// wantWhole fails where a deed that failed so is neither done nor undone, or is the other one of both.
func wantWhole(t *testing.T, p *plain, l []impl.Pair, step int, kept []int) {
	t.Helper()
	steps := p.deed(l)
	// The deed is done just where the empty log is sure.
	last := len(steps) - 1
	done := step == last || step == last-1 && slices.Contains(kept, countLine)
	m, ok := impl.FailDeed(p.memory(), l, step, kept)
	if !ok {
		t.Fatal("FailDeed refused", l, step, kept)
	}
	said := p.data()
	if done {
		said = steps[last].data()
	}
	got := dataOf(t, m)
	if !slices.Equal(got, said) {
		t.Fatalf("%v failed behind step %d with %v kept: %v, not %v", l, step, kept, got, said)
	}
	wantSettled(t, m)
	if slices.Contains(m.Dirty, true) {
		t.Fatal("something is dirty", tell(m))
	}
	again := recovered(t, m)
	if !slices.Equal(dataOf(t, again), said) {
		t.Fatalf("%v once more: %v, not %v", l, dataOf(t, again), said)
	}
	wantSettled(t, again)
}

func TestDeedWhole(t *testing.T) {
	for _, p := range settled() {
		for _, l := range goodDeeds() {
			for step := range p.deed(l) {
				for _, kept := range keptOf(linesOfDeed(l)) {
					wantWhole(t, p, l, step, kept)
				}
			}
		}
	}
}

func TestDeedWholeAnyKept(t *testing.T) {
	l := changes(9, 50, 12, 51, 23, 52)
	p := oneToSixteen()
	for step := range p.deed(l) {
		for mask := range 1 << impl.Lines {
			if (mask+step)%7 == 0 {
				wantWhole(t, p, l, step, linesIn(mask))
			}
		}
	}
}

func TestDeedWholeAtEachPlace(t *testing.T) {
	for at := 8; at < 24; at++ {
		for other := at + 1; other < 24; other++ {
			p, l := oneToSixteen(), changes(at, 500, other, 501)
			for step := range p.deed(l) {
				for _, kept := range [][]int{nil, {countLine}, {at / 4}, allLines()} {
					wantWhole(t, p, l, step, kept)
				}
			}
		}
	}
}

// The count is sure ahead of the data: no data are stored to while what is sure of the log does not undo them.
func TestDeedCountAheadOfData(t *testing.T) {
	for _, l := range goodDeeds() {
		steps, ok := impl.DeedSteps(oneToSixteen().memory(), l)
		if !ok {
			t.Fatal("DeedSteps refused", l)
		}
		before := dataOf(t, steps[0])
		for k, m := range steps[:len(steps)-1] {
			changed := !slices.Equal(dataOf(t, m), before)
			if sure := m.Sure[countLine].Words[0]; changed && sure != len(l) {
				t.Fatalf("%v, step %d: the data are changed while %d is sure of the count", l, k, sure)
			}
		}
	}
}

// A failure while one is undone is undone, too, wherever that fails and whatever is kept.
func TestDeedFailsWhileUndone(t *testing.T) {
	for _, p := range []*plain{oneToSixteen(), brimful()} {
		for _, l := range [][]impl.Pair{changes(8, 5), changes(8, 5, 9, 6), changes(11, 5, 12, 6), changes(8, 50, 11, 51, 23, 52)} {
			for step, at := range p.deed(l) {
				for _, first := range [][]int{nil, {countLine}, {2}, {2, countLine}, allLines()} {
					fallen := at.copied()
					fallen.fail(first)
					said := fallen.undone().data()
					wantBackFrom(t, fallen, said, linesOfDeed(l))
					if m, ok := impl.FailDeed(p.memory(), l, step, first); !ok || !slices.Equal(dataOf(t, m), said) {
						t.Fatal(l, step, first, tell(m), ok)
					}
				}
			}
		}
	}
}

// wantBackFrom fails where a return from p that is broken off anywhere, and begun again, does not end with these data.
func wantBackFrom(t *testing.T, p *plain, said []int, lines []int) {
	t.Helper()
	for _, at := range p.undoing() {
		for _, kept := range keptOf(lines) {
			m := recovered(t, failed(t, at.memory(), kept...))
			if got := dataOf(t, m); !slices.Equal(got, said) {
				t.Fatalf("with %v kept: %v, not %v", kept, got, said)
			}
			wantSettled(t, m)
		}
	}
}

// TestDeedsBehindDeeds does many deeds one behind the other, most of which fail, in one memory.
func TestDeedsBehindDeeds(t *testing.T) {
	next := numbersFrom(4)
	p, m := oneToSixteen(), oneToSixteen().memory()
	for range 5000 {
		var l []impl.Pair
		for at := 8 + next(12); at < 24 && len(l) < 1+next(3); at += 1 + next(4) {
			l = append(l, impl.Pair{At: at, Word: next(4) * (impl.MaxWord / 3)})
		}
		if len(l) == 0 {
			continue
		}
		steps := p.deed(l)
		step, kept := next(len(steps)), linesIn(next(1<<impl.Lines))
		p = steps[step]
		p.fail(kept)
		p = p.undone()
		var ok bool
		if m, ok = impl.FailDeed(m, l, step, kept); !ok || tell(m) != tell(p.memory()) {
			t.Fatalf("%v, step %d, %v kept: %s, %v, not %s", l, step, kept, tell(m), ok, tell(p.memory()))
		}
	}
}
