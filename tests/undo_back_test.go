package tests

import (
	"testing"

	"loop.example/g00620/impl"
)

// Promise 3: whatever was written, all comes back as it was at the last end.

func TestBackOfNoWrite(t *testing.T) {
	wantBack(t, newBook(t, 1, 2, 3, 4, 5, 6, 7, 8), 1, 2, 3, 4, 5, 6, 7, 8)
	wantBack(t, newBook(t, 0, 0, 0, 0, 0, 0, 0, 0), 0, 0, 0, 0, 0, 0, 0, 0)
}

func TestBackOfOneWrite(t *testing.T) {
	for cell := range impl.Cells {
		for _, word := range []int{0, 1, cell + 1, impl.MaxWord} {
			s := cellsWritten(t, newBook(t, 1, 2, 3, 4, 5, 6, 7, 8), pairs(cell, word)...)
			if s.Cells[cell] != word || len(s.Log) != 1 {
				t.Fatal(tell(s))
			}
			wantBack(t, s, 1, 2, 3, 4, 5, 6, 7, 8)
		}
	}
}

// A second write logs nothing: what the cell was ahead of the first one comes back.
func TestBackOfManyWrites(t *testing.T) {
	s := newBook(t, 0, 2, 3, 4, 5, 6, 7, impl.MaxWord)
	for _, p := range pairs(0, 9, 7, 0, 0, 10, 3, 4, 3, 40, 0, 0, 7, impl.MaxWord, 7, 5, 2, 3, 2, 3) {
		s = cellsWritten(t, s, p)
		wantBack(t, s, 0, 2, 3, 4, 5, 6, 7, impl.MaxWord)
	}
	if tell(s.Log) != tell(pairs(0, 0, 7, impl.MaxWord, 3, 4, 2, 3)) {
		t.Fatal("the log is", s.Log)
	}
	if tell(s.Cells) != tell([]int{0, 2, 3, 40, 5, 6, 7, 5}) {
		t.Fatal("the cells are", s.Cells)
	}
}

func TestBackOfAllWritten(t *testing.T) {
	for first := range impl.Cells {
		s := newBook(t, 1, 2, 3, 4, 5, 6, 7, 8)
		for k := range 3 * impl.Cells {
			s = cellsWritten(t, s, pairs((first+5*k)%impl.Cells, 100+k)...)
		}
		if len(s.Log) != impl.Cells {
			t.Fatal("the log is", s.Log)
		}
		wantBack(t, s, 1, 2, 3, 4, 5, 6, 7, 8)
	}
}

func TestBackToLastEnd(t *testing.T) {
	s := cellsWritten(t, newBook(t, 1, 2, 3, 4, 5, 6, 7, 8), pairs(0, 9, 7, 80, 0, 10)...)
	s = ended(t, s)
	if len(s.Log) != 0 {
		t.Fatal("the log is", s.Log)
	}
	wantBack(t, s, 10, 2, 3, 4, 5, 6, 7, 80)
	s = cellsWritten(t, s, pairs(0, 11, 1, 20, 0, 1)...)
	wantBack(t, s, 10, 2, 3, 4, 5, 6, 7, 80)
	s = ended(t, ended(t, s))
	wantBack(t, s, 1, 20, 3, 4, 5, 6, 7, 80)
	wantBack(t, cellsWritten(t, s, pairs(7, 0)...), 1, 20, 3, 4, 5, 6, 7, 80)
}

func TestBackTwice(t *testing.T) {
	s := cellsWritten(t, newBook(t, 1, 2, 3, 4, 5, 6, 7, 8), pairs(4, 50)...)
	back, ok := impl.RollBack(s)
	if !ok {
		t.Fatal("refused")
	}
	wantBack(t, back, 1, 2, 3, 4, 5, 6, 7, 8)
	wantBack(t, cellsWritten(t, back, pairs(4, 51, 5, 60)...), 1, 2, 3, 4, 5, 6, 7, 8)
	wantBack(t, s, 1, 2, 3, 4, 5, 6, 7, 8)
}

func TestBackOfWriteAll(t *testing.T) {
	s := newBook(t, 1, 2, 3, 4, 5, 6, 7, 8)
	twenty := pairs(
		7, 1, 6, 2, 5, 3, 7, 4, 0, 5, 1, 6, 2, 7, 3, 8, 4, 9, 5, 10,
		6, 11, 7, 12, 0, 13, 1, 14, 2, 15, 3, 16, 4, 17, 5, 18, 6, 19, 7, impl.MaxWord)
	for many := range len(twenty) + 1 {
		w, ok := impl.WriteAll(s, twenty[:many])
		wantSameBook(t, oneToEight().write(twenty[:many]...), w, ok)
		wantBack(t, w, 1, 2, 3, 4, 5, 6, 7, 8)
		if one := cellsWritten(t, s, twenty[:many]...); tell(one) != tell(w) {
			t.Fatalf("%d pairs at once: %s, one by one: %s", many, tell(w), tell(one))
		}
	}
}

// TestBackBehindAnyDeeds plays many writes, ends and returns, and holds each book against the ledger.
func TestBackBehindAnyDeeds(t *testing.T) {
	next := numbersFrom(3)
	some := func(many int) []impl.Undo {
		l := make([]impl.Undo, many)
		for k := range l {
			// Few words, so that a cell is often written with the one it has.
			l[k] = impl.Undo{Cell: next(impl.Cells), Was: next(4) * (impl.MaxWord / 3)}
		}
		return l
	}
	l, s := oneToEight(), newBook(t, 1, 2, 3, 4, 5, 6, 7, 8)
	for range 20000 {
		ok := false
		switch kind := next(20); {
		case kind < 14:
			p := some(1)
			l.write(p...)
			s, ok = impl.WriteCell(s, p[0].Cell, p[0].Was)
		case kind < 16:
			p := some(next(21))
			l.write(p...)
			s, ok = impl.WriteAll(s, p)
		case kind < 18:
			l.endEpoch()
			s, ok = impl.EndEpoch(s)
		default:
			l.rollBack()
			s, ok = impl.RollBack(s)
		}
		wantSameBook(t, l, s, ok)
		wantBack(t, s, l.end[:]...)
		if cells, ok := impl.TouchedIn(s); !ok || tell(cells) != tell(l.touched()) {
			t.Fatal(cells, ok, "not", l.touched())
		}
	}
}
