package tests

import (
	"testing"

	"loop.example/g00620/impl"
)

// Promise 19, for chapter 3: every function answers at any arguments, and writes into none.

func TestNewBook(t *testing.T) {
	most := impl.MaxWord
	for _, cells := range [][]int{
		{1, 2, 3, 4, 5, 6, 7, 8}, make([]int, impl.Cells), {most, most, most, most, most, most, most, most},
		{0, most, 0, most, 0, most, 0, most}, {most, 0, 0, 0, 0, 0, 0, most},
	} {
		wantBook(t, ledgerOf(cells...), impl.NewBook, cells)
	}
	for _, cells := range badCells() {
		wantZero(t, impl.NewBook, cells)
	}
}

func TestGoodBook(t *testing.T) {
	for _, s := range goodBooks() {
		want(t, []any{true}, impl.GoodBook, s)
	}
	for _, s := range badBooks() {
		want(t, []any{false}, impl.GoodBook, s)
	}
	// What a cell was may be any word, be it what the cell is or not.
	for cell := range impl.Cells {
		for _, was := range []int{0, cell + 1, impl.MaxWord} {
			s := oneToEight().book()
			s.Log = pairs(cell, was)
			want(t, []any{true}, impl.GoodBook, s)
		}
	}
}

func TestWriteCell(t *testing.T) {
	for _, s := range goodBooks() {
		for cell := range impl.Cells {
			for _, word := range []int{0, 1, s.Cells[cell], 40000, impl.MaxWord} {
				wantBook(t, ledgerFrom(s).write(pairs(cell, word)...), impl.WriteCell, s, cell, word)
			}
			for _, word := range badWords {
				wantZero(t, impl.WriteCell, s, cell, word)
			}
		}
		for _, cell := range badCellNumbers {
			wantZero(t, impl.WriteCell, s, cell, 0)
			wantZero(t, impl.WriteCell, s, cell, impl.MaxWord)
			wantZero(t, impl.WriteCell, s, cell, -1)
		}
	}
	for _, s := range badBooks() {
		wantZero(t, impl.WriteCell, s, 0, 0)
		wantZero(t, impl.WriteCell, s, impl.Cells-1, 9)
	}
}

func TestWriteCellTwice(t *testing.T) {
	s := oneToEight().book()
	for _, cell := range []int{0, 3, impl.Cells - 1} {
		once := impl.Book{Cells: append([]int(nil), s.Cells...), Log: pairs(cell, cell+1)}
		once.Cells[cell] = 90
		want(t, []any{once, true}, impl.WriteCell, s, cell, 90)
		twice := impl.Book{Cells: append([]int(nil), s.Cells...), Log: pairs(cell, cell+1)}
		twice.Cells[cell] = 91
		want(t, []any{twice, true}, impl.WriteCell, once, cell, 91)
		want(t, []any{impl.Book{Cells: s.Cells, Log: pairs(cell, cell+1)}, true}, impl.WriteCell, twice, cell, cell+1)
	}
}

// A cell that is written with the word it has is in the log all the same.
func TestWriteCellSameWord(t *testing.T) {
	s := oneToEight().book()
	want(t, []any{impl.Book{Cells: s.Cells, Log: pairs(0, 1)}, true}, impl.WriteCell, s, 0, 1)
	want(t, []any{impl.Book{Cells: s.Cells, Log: pairs(7, 8)}, true}, impl.WriteCell, s, 7, 8)
}

func TestEndEpoch(t *testing.T) {
	for _, s := range goodBooks() {
		want(t, []any{impl.Book{Cells: s.Cells}, true}, impl.EndEpoch, s)
	}
	for _, s := range badBooks() {
		wantZero(t, impl.EndEpoch, s)
	}
}

func TestRollBack(t *testing.T) {
	want(t, []any{oneToEight().book(), true}, impl.RollBack, mixedLedger().book())
	want(t, []any{oneToEight().book(), true}, impl.RollBack, allWritten().book())
	for _, s := range goodBooks() {
		wantBook(t, ledgerFrom(s).rollBack(), impl.RollBack, s)
	}
	for _, s := range badBooks() {
		wantZero(t, impl.RollBack, s)
	}
}

func TestBeforeOf(t *testing.T) {
	want(t, []any{[]int{1, 2, 3, 4, 5, 6, 7, 8}, true}, impl.BeforeOf, mixedLedger().book())
	want(t, []any{[]int{1, 2, 3, 4, 5, 6, 7, 8}, true}, impl.BeforeOf, allWritten().book())
	for _, s := range goodBooks() {
		l := ledgerFrom(s)
		want(t, []any{l.end[:], true}, impl.BeforeOf, s)
	}
	for _, s := range badBooks() {
		wantZero(t, impl.BeforeOf, s)
	}
}

func TestTouchedIn(t *testing.T) {
	want(t, []any{[]int(nil), true}, impl.TouchedIn, oneToEight().book())
	want(t, []any{[]int{0, 2, 3, 5, 7}, true}, impl.TouchedIn, mixedLedger().book())
	want(t, []any{[]int{0, 1, 2, 3, 4, 5, 6, 7}, true}, impl.TouchedIn, allWritten().book())
	for _, s := range goodBooks() {
		want(t, []any{ledgerFrom(s).touched(), true}, impl.TouchedIn, s)
	}
	for _, s := range badBooks() {
		wantZero(t, impl.TouchedIn, s)
	}
}

func TestWriteAll(t *testing.T) {
	var twenty []impl.Undo
	for k := range 20 {
		twenty = append(twenty, impl.Undo{Cell: k * 5 % impl.Cells, Was: k * impl.MaxWord / 19})
	}
	for _, s := range goodBooks() {
		wantBook(t, ledgerFrom(s), impl.WriteAll, s, []impl.Undo(nil))
		wantBook(t, ledgerFrom(s), impl.WriteAll, s, []impl.Undo{})
		for many := range len(twenty) + 1 {
			wantBook(t, ledgerFrom(s).write(twenty[:many]...), impl.WriteAll, s, twenty[:many])
		}
		for _, l := range [][]impl.Undo{
			pairs(0, 0), pairs(7, impl.MaxWord), pairs(1, 9, 1, 5), pairs(0, s.Cells[0], 7, s.Cells[7]),
			pairs(7, 1, 0, 2, 7, 3), pairs(7, 0, 6, 1, 5, 2, 4, 3, 3, 4, 2, 5, 1, 6, 0, 7), make([]impl.Undo, 20),
		} {
			wantBook(t, ledgerFrom(s).write(l...), impl.WriteAll, s, l)
		}
	}
}

func TestWriteAllWrong(t *testing.T) {
	for _, s := range goodBooks() {
		for _, many := range []int{21, 22, 40, 1000} {
			wantZero(t, impl.WriteAll, s, make([]impl.Undo, many))
		}
		for _, cell := range badCellNumbers {
			wantZero(t, impl.WriteAll, s, pairs(cell, 1))
			wantZero(t, impl.WriteAll, s, pairs(0, 1, 1, 2, cell, 3))
			wantZero(t, impl.WriteAll, s, pairs(cell, 3, 0, 1, 1, 2))
		}
		for _, word := range badWords {
			wantZero(t, impl.WriteAll, s, pairs(0, word))
			wantZero(t, impl.WriteAll, s, pairs(0, 1, 7, word))
			wantZero(t, impl.WriteAll, s, pairs(7, word, 7, 1))
			last := make([]impl.Undo, 20)
			last[19].Was = word
			wantZero(t, impl.WriteAll, s, last)
		}
	}
	for _, s := range badBooks() {
		wantZero(t, impl.WriteAll, s, []impl.Undo(nil))
		wantZero(t, impl.WriteAll, s, pairs(0, 1, 7, 2))
		wantZero(t, impl.WriteAll, s, make([]impl.Undo, 21))
	}
}

// Lists of two arguments may share memory; the answer shares none with them.
func TestWriteAllOfOwnLog(t *testing.T) {
	s := allWritten().book()
	wantBook(t, allWritten().write(s.Log...), impl.WriteAll, s, s.Log)
}
