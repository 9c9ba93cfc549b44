package tests

import (
	"testing"

	"loop.example/g00620/impl"
)

// Promise 1: behind a failure each line is what it was last or what was sure,
// as a whole, and what was flushed stays.

func allLines() []int {
	var l []int
	for k := range impl.Lines {
		l = append(l, k)
	}
	return l
}

func linesIn(mask int) []int {
	var l []int
	for k := range impl.Lines {
		if mask>>k&1 == 1 {
			l = append(l, k)
		}
	}
	return l
}

func stored(t *testing.T, m impl.Memory, at int, words ...int) impl.Memory {
	t.Helper()
	s, ok := impl.StoreAll(m, at, words)
	if !ok {
		t.Fatal("StoreAll refused", at, words)
	}
	return s
}

func flushed(t *testing.T, m impl.Memory, line int) impl.Memory {
	t.Helper()
	f, ok := impl.FlushLine(m, line)
	if !ok {
		t.Fatal("FlushLine refused", line)
	}
	return f
}

// wantLine fails where a failure with kept does not leave the line with these words, sure and in the cache.
func wantLine(t *testing.T, m impl.Memory, kept []int, line int, words ...int) {
	t.Helper()
	f, ok := impl.FailPower(m, kept)
	if !ok || !impl.GoodMemory(f) {
		t.Fatal("no good memory behind a failure with", kept)
	}
	if f.Dirty[line] || tell(f.Cache[line].Words) != tell(words) || tell(f.Sure[line].Words) != tell(words) {
		t.Fatalf("kept %v: line %d is %v, sure %v, dirty %v; not %v", kept, line, f.Cache[line].Words, f.Sure[line].Words, f.Dirty[line], words)
	}
}

func TestFailNoneKept(t *testing.T) {
	m := stored(t, impl.NewMemory(), 4, 1, 2, 3, 4)
	for _, none := range [][]int{nil, {}} {
		wantLine(t, m, none, 1, 0, 0, 0, 0)
	}
	wantLine(t, flushed(t, m, 1), nil, 1, 1, 2, 3, 4)
}

func TestFailSomeKept(t *testing.T) {
	m := stored(t, impl.NewMemory(), 2, 1, 2, 3, 4)
	wantLine(t, m, []int{0}, 0, 0, 0, 1, 2)
	wantLine(t, m, []int{0}, 1, 0, 0, 0, 0)
	wantLine(t, m, []int{1}, 0, 0, 0, 0, 0)
	wantLine(t, m, []int{1}, 1, 3, 4, 0, 0)
}

func TestFailAllKept(t *testing.T) {
	m := stored(t, impl.NewMemory(), 0, 1, 2, 3, 4, 5, 6, 7, impl.MaxWord)
	m = stored(t, m, lastPlace, 9)
	for _, kept := range [][]int{{0, 1, impl.Lines - 1}, allLines()} {
		wantLine(t, m, kept, 0, 1, 2, 3, 4)
		wantLine(t, m, kept, 1, 5, 6, 7, impl.MaxWord)
		wantLine(t, m, kept, impl.Lines-1, 0, 0, 0, 9)
	}
}

func TestFailKeptLineNotDirty(t *testing.T) {
	m := flushed(t, stored(t, impl.NewMemory(), 8, 1, 2, 3, 4), 2)
	m = stored(t, m, 12, 5)
	wantLine(t, m, []int{2}, 2, 1, 2, 3, 4)
	wantLine(t, m, []int{2}, 3, 0, 0, 0, 0)
	wantLine(t, m, []int{0, 2}, 0, 0, 0, 0, 0)
}

func TestFailFlushedAndStoredAgain(t *testing.T) {
	m := flushed(t, stored(t, impl.NewMemory(), 8, 1, 2, 3, 4), 2)
	m = stored(t, m, 9, 5, 6)
	wantLine(t, m, nil, 2, 1, 2, 3, 4)
	wantLine(t, m, []int{1, 3}, 2, 1, 2, 3, 4)
	wantLine(t, m, []int{2}, 2, 1, 5, 6, 4)
}

func TestFailTwice(t *testing.T) {
	m := stored(t, impl.NewMemory(), 8, 1, 2, 3, 4)
	f, ok := impl.FailPower(m, []int{2})
	if !ok {
		t.Fatal("refused")
	}
	wantLine(t, stored(t, f, 10, 9), nil, 2, 1, 2, 3, 4)
}

func TestFailAnyKept(t *testing.T) {
	for mask := range 1 << impl.Lines {
		kept := linesIn(mask)
		p := mixed()
		m := p.memory()
		p.fail(kept)
		f, ok := impl.FailPower(m, kept)
		if !ok || !impl.GoodMemory(f) || tell(f) != tell(p.memory()) {
			t.Fatalf("kept %v: %s, not %s", kept, tell(f), tell(p.memory()))
		}
	}
}

// TestFailBehindAnyDeeds plays many stores, flushes and failures, and holds each memory against the plain one.
func TestFailBehindAnyDeeds(t *testing.T) {
	next := numbersFrom(1)
	p, m := &plain{}, impl.NewMemory()
	for step := range 20000 {
		ok := false
		switch kind := next(20); {
		case kind < 8:
			at, word := next(lastPlace+1), next(impl.MaxWord+1)
			p.store(at, word)
			m, ok = impl.Store(m, at, word)
		case kind < 13:
			words := make([]int, next(9))
			for k := range words {
				words[k] = next(impl.MaxWord + 1)
			}
			at := next(lastPlace + 2 - max(len(words), 1))
			p.store(at, words...)
			m, ok = impl.StoreAll(m, at, words)
		case kind < 17:
			line := next(impl.Lines)
			p.flush(line)
			m, ok = impl.FlushLine(m, line)
		case kind < 18:
			p.flushAll()
			m, ok = impl.FlushAll(m)
		default:
			kept := linesIn(next(1 << impl.Lines))
			p.fail(kept)
			m, ok = impl.FailPower(m, kept)
		}
		if !ok || !impl.GoodMemory(m) || tell(m) != tell(p.memory()) {
			t.Fatalf("step %d: %s, not %s", step, tell(m), tell(p.memory()))
		}
	}
}
