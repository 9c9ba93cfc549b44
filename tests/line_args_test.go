package tests

import (
	"testing"

	"loop.example/g00620/impl"
)

// Promise 19, for chapter 1: every function answers at any arguments, and writes into none.

var (
	badPlaces = append([]int{-1, lastPlace + 1, lastPlace + 2}, farOff...)
	badLines  = append([]int{-1, impl.Lines, impl.Lines + 1}, farOff...)
	badWords  = append([]int{-1, impl.MaxWord + 1}, farOff...)
	badCounts = append([]int{-1, 9, 10}, farOff...)
	badKept   = [][]int{
		{-1}, {impl.Lines}, {-1, 0}, {11, 12}, {0, 0}, {5, 5}, {1, 0}, {3, 5, 4}, {0, 1, 2, 1},
		{farOff[0], 0}, {0, farOff[4]}, append(allLines(), impl.Lines), append(allLines(), 11), append(allLines(), 0),
	}
)

func TestNewMemory(t *testing.T) {
	want(t, []any{(&plain{}).memory()}, impl.NewMemory)
	a, b := impl.NewMemory(), impl.NewMemory()
	a.Sure[0].Words[0], a.Cache[0].Words[0], a.Dirty[0] = 1, 2, true
	if tell(b) != tell((&plain{}).memory()) {
		t.Fatal("two new memories share memory")
	}
}

func TestGoodMemory(t *testing.T) {
	for _, m := range goodMemories() {
		want(t, []any{true}, impl.GoodMemory, m)
	}
	for _, m := range badMemories() {
		want(t, []any{false}, impl.GoodMemory, m)
	}
	alike := impl.NewMemory()
	alike.Dirty[3] = true
	want(t, []any{true}, impl.GoodMemory, alike)
}

func TestLoad(t *testing.T) {
	p := mixed()
	for at, word := range p.cache {
		want(t, []any{word, true}, impl.Load, p.memory(), at)
	}
	for _, m := range goodMemories() {
		for _, at := range badPlaces {
			wantZero(t, impl.Load, m, at)
		}
	}
	for _, m := range badMemories() {
		wantZero(t, impl.Load, m, 0)
		wantZero(t, impl.Load, m, lastPlace)
	}
}

func TestStore(t *testing.T) {
	for _, at := range []int{0, 1, 3, 4, 7, 8, 13, 20, lastPlace - 1, lastPlace} {
		for _, word := range []int{0, 1, 24, impl.MaxWord} {
			p := mixed()
			m := p.memory()
			p.store(at, word)
			wantMemory(t, p, impl.Store, m, at, word)
		}
	}
	for _, m := range goodMemories() {
		for _, at := range badPlaces {
			wantZero(t, impl.Store, m, at, 1)
		}
		for _, word := range badWords {
			wantZero(t, impl.Store, m, 5, word)
		}
	}
	for _, m := range badMemories() {
		wantZero(t, impl.Store, m, 0, 0)
		wantZero(t, impl.Store, m, lastPlace, 5)
	}
}

// A word that is stored again as it is leaves its line dirty all the same.
func TestStoreSameWord(t *testing.T) {
	p := &plain{}
	p.store(lastPlace, 0)
	if !p.dirty[impl.Lines-1] {
		t.Fatal("not dirty")
	}
	wantMemory(t, p, impl.Store, impl.NewMemory(), lastPlace, 0)
}

func TestFlushLine(t *testing.T) {
	for line := range impl.Lines {
		p := mixed()
		m := p.memory()
		p.flush(line)
		wantMemory(t, p, impl.FlushLine, m, line)
	}
	for _, m := range goodMemories() {
		for _, line := range badLines {
			wantZero(t, impl.FlushLine, m, line)
		}
	}
	for _, m := range badMemories() {
		wantZero(t, impl.FlushLine, m, 0)
		wantZero(t, impl.FlushLine, m, impl.Lines-1)
	}
}

func TestFlushAll(t *testing.T) {
	p := mixed()
	m := p.memory()
	p.flushAll()
	wantMemory(t, p, impl.FlushAll, m)
	wantMemory(t, p, impl.FlushAll, p.memory())
	wantMemory(t, &plain{}, impl.FlushAll, impl.NewMemory())
	for _, m := range badMemories() {
		wantZero(t, impl.FlushAll, m)
	}
}

func TestFailPower(t *testing.T) {
	for _, kept := range [][]int{nil, {}, {0}, {11}, {2}, {1}, {2, 3}, {0, 1, 6}, {3, 11}, allLines()} {
		p := mixed()
		m := p.memory()
		p.fail(kept)
		wantMemory(t, p, impl.FailPower, m, kept)
	}
	for _, m := range goodMemories() {
		for _, kept := range badKept {
			wantZero(t, impl.FailPower, m, kept)
		}
	}
	for _, m := range badMemories() {
		wantZero(t, impl.FailPower, m, []int(nil))
		wantZero(t, impl.FailPower, m, []int{0, 2, 11})
	}
}

func TestStoreAll(t *testing.T) {
	words := []int{impl.MaxWord, 0, 3, 4, 5, 6, 7, 8}
	for at := range lastPlace + 1 {
		for many := range len(words) + 1 {
			p := mixed()
			m := p.memory()
			if at+many > lastPlace+1 {
				wantZero(t, impl.StoreAll, m, at, words[:many])
				continue
			}
			p.store(at, words[:many]...)
			wantMemory(t, p, impl.StoreAll, m, at, words[:many])
		}
	}
	wantMemory(t, mixed(), impl.StoreAll, mixed().memory(), 5, []int(nil))
}

func TestStoreAllWrong(t *testing.T) {
	for _, m := range goodMemories() {
		for _, at := range badPlaces {
			for many := range 9 {
				wantZero(t, impl.StoreAll, m, at, make([]int, many))
			}
		}
		for _, word := range badWords {
			wantZero(t, impl.StoreAll, m, 0, []int{word})
			wantZero(t, impl.StoreAll, m, 3, []int{1, 2, word})
			wantZero(t, impl.StoreAll, m, 3, []int{word, 2, 1})
		}
		wantZero(t, impl.StoreAll, m, 0, make([]int, 9))
		wantZero(t, impl.StoreAll, m, 0, make([]int, 48))
		wantZero(t, impl.StoreAll, m, 0, make([]int, 1000))
	}
	for _, m := range badMemories() {
		wantZero(t, impl.StoreAll, m, 0, []int(nil))
		wantZero(t, impl.StoreAll, m, 2, []int{1, 2, 3})
	}
}

func TestLoadAll(t *testing.T) {
	p := mixed()
	for at := range lastPlace + 1 {
		for many := range 9 {
			if at+many > lastPlace+1 {
				wantZero(t, impl.LoadAll, p.memory(), at, many)
				continue
			}
			want(t, []any{p.cache[at : at+many], true}, impl.LoadAll, p.memory(), at, many)
		}
	}
}

func TestLoadAllWrong(t *testing.T) {
	for _, m := range goodMemories() {
		for _, at := range badPlaces {
			for many := range 9 {
				wantZero(t, impl.LoadAll, m, at, many)
			}
		}
		for _, many := range badCounts {
			wantZero(t, impl.LoadAll, m, 0, many)
			wantZero(t, impl.LoadAll, m, lastPlace, many)
		}
	}
	for _, m := range badMemories() {
		wantZero(t, impl.LoadAll, m, 0, 0)
		wantZero(t, impl.LoadAll, m, 2, 3)
	}
}

// Lists of an argument may share memory; those of the answer do not, and a change goes to one line alone.
func TestSharedListsHandedIn(t *testing.T) {
	p := &plain{}
	for line := range impl.Lines {
		p.store(line*impl.LineWords, 1, 2, 3, 4)
	}
	p.flushAll()
	wantMemory(t, p, impl.FlushLine, oneListForAll(), 4)
	wantMemory(t, p, impl.FlushAll, oneListForAll())
	wantMemory(t, p, impl.FailPower, oneListForAll(), []int{4})
	p.store(6, 9, 8, 7)
	wantMemory(t, p, impl.StoreAll, oneListForAll(), 6, []int{9, 8, 7})
}
