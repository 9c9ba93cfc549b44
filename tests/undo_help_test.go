package tests

import (
	"testing"

	"loop.example/g00620/impl"
)

// ledger is what a book should be, kept apart from the program: the cells now and
// at the last end, and the cells written to since, in the order of their first write.
type ledger struct {
	now, end [impl.Cells]int
	order    []int
}

func ledgerOf(cells ...int) *ledger {
	l := &ledger{}
	copy(l.now[:], cells)
	copy(l.end[:], cells)
	return l
}

// write goes by pairs of a cell and a word.
func (l *ledger) write(pairs ...impl.Undo) *ledger {
	for _, p := range pairs {
		if !l.has(p.Cell) {
			l.order = append(l.order, p.Cell)
		}
		l.now[p.Cell] = p.Was
	}
	return l
}

func (l *ledger) has(cell int) bool {
	for _, k := range l.order {
		if k == cell {
			return true
		}
	}
	return false
}

func (l *ledger) endEpoch() *ledger {
	l.end, l.order = l.now, nil
	return l
}

func (l *ledger) rollBack() *ledger {
	l.now, l.order = l.end, nil
	return l
}

func (l *ledger) touched() []int {
	var cells []int
	for cell := range impl.Cells {
		if l.has(cell) {
			cells = append(cells, cell)
		}
	}
	return cells
}

func (l *ledger) book() impl.Book {
	s := impl.Book{Cells: append([]int(nil), l.now[:]...)}
	for _, cell := range l.order {
		s.Log = append(s.Log, impl.Undo{Cell: cell, Was: l.end[cell]})
	}
	return s
}

// ledgerFrom takes a good book over into a ledger.
func ledgerFrom(s impl.Book) *ledger {
	l := ledgerOf(s.Cells...)
	for _, u := range s.Log {
		l.end[u.Cell] = u.Was
		l.order = append(l.order, u.Cell)
	}
	return l
}

func oneToEight() *ledger {
	return ledgerOf(1, 2, 3, 4, 5, 6, 7, 8)
}

// mixedLedger has cells never written to, written once and more often, written
// with the word they had, and back at what they were.
func mixedLedger() *ledger {
	return oneToEight().write(pairs(5, 50, 0, 9, 5, 51, 7, impl.MaxWord, 3, 4, 2, 30, 2, 3, 0, 0)...)
}

// allWritten has a log of all cells, not in the order of the cells.
func allWritten() *ledger {
	return oneToEight().write(pairs(7, 70, 3, 30, 0, 0, 5, 50, 6, 7, 1, impl.MaxWord, 4, 40, 2, 20)...)
}

// goodBooks are good ones, each made anew.
func goodBooks() []impl.Book {
	most := impl.MaxWord
	return []impl.Book{
		ledgerOf().book(), ledgerOf(most, most, most, most, most, most, most, most).book(),
		oneToEight().book(), mixedLedger().book(), allWritten().book(),
		oneToEight().write(pairs(0, 1)...).book(), oneToEight().write(pairs(7, most, 0, 0)...).book(),
		ledgerOf(most, 0, most, 0, most, 0, most, 0).write(pairs(0, 0, 1, most, 7, most, 6, 0)...).book(),
		{Cells: make([]int, impl.Cells), Log: []impl.Undo{}},
		{Cells: make([]int, impl.Cells), Log: []impl.Undo{{Cell: 7, Was: most}, {Cell: 0, Was: most}}},
	}
}

// badBooks are ones that are not good, each for one reason.
func badBooks() []impl.Book {
	bad := []impl.Book{{}, {Log: []impl.Undo{{Cell: 0, Was: 1}}}}
	spoilt := func(from *ledger, f func(s *impl.Book)) {
		s := from.book()
		f(&s)
		bad = append(bad, s)
	}
	for _, from := range []func() *ledger{oneToEight, mixedLedger, allWritten} {
		for _, cells := range badCells() {
			spoilt(from(), func(s *impl.Book) { s.Cells = cells })
		}
		for _, cell := range badCellNumbers {
			spoilt(from(), func(s *impl.Book) { s.Log = append(s.Log, impl.Undo{Cell: cell}) })
			spoilt(from(), func(s *impl.Book) { s.Log = append([]impl.Undo{{Cell: cell}}, s.Log...) })
		}
	}
	for _, word := range badWords {
		for k := range impl.Cells {
			spoilt(allWritten(), func(s *impl.Book) { s.Log[k].Was = word })
		}
		spoilt(oneToEight(), func(s *impl.Book) { s.Log = []impl.Undo{{Cell: 0, Was: word}} })
		spoilt(mixedLedger(), func(s *impl.Book) { s.Log = append(s.Log, impl.Undo{Cell: 6, Was: word}) })
	}
	for k := range impl.Cells {
		spoilt(allWritten(), func(s *impl.Book) { s.Log = append(s.Log, s.Log[k]) })
		spoilt(allWritten(), func(s *impl.Book) { s.Log[k] = s.Log[(k+1)%impl.Cells] })
		spoilt(oneToEight(), func(s *impl.Book) { s.Log = pairs(k, 1, k, 1) })
		spoilt(oneToEight(), func(s *impl.Book) { s.Log = pairs(k, 1, (k+3)%impl.Cells, 1, k, 2) })
	}
	return bad
}

// badCells are lists that are no cells of a book, each for one reason.
func badCells() [][]int {
	l := [][]int{nil, {}, {1}, {1, 2, 3, 4, 5, 6, 7}, {1, 2, 3, 4, 5, 6, 7, 8, 9}, make([]int, 16), make([]int, 1000)}
	for _, word := range badWords {
		for k := range impl.Cells {
			cells := []int{1, 2, 3, 4, 5, 6, 7, 8}
			cells[k] = word
			l = append(l, cells)
		}
	}
	return l
}

var badCellNumbers = append([]int{-8, -1, impl.Cells, impl.Cells + 1, 100, impl.MaxWord}, farOff...)

// pairs makes pairs of a cell and a word out of numbers side by side.
func pairs(numbers ...int) []impl.Undo {
	var l []impl.Undo
	for k := 0; k < len(numbers); k += 2 {
		l = append(l, impl.Undo{Cell: numbers[k], Was: numbers[k+1]})
	}
	return l
}

// wantBook fails where f does not answer the book l is, and true.
func wantBook(t *testing.T, l *ledger, f any, args ...any) {
	t.Helper()
	want(t, []any{l.book(), true}, f, args...)
}

// wantSameBook fails where s is not good or not the book l is.
func wantSameBook(t *testing.T, l *ledger, s impl.Book, ok bool) {
	t.Helper()
	if !ok || !impl.GoodBook(s) || tell(s) != tell(l.book()) {
		t.Fatalf("%s, %v, not %s", tell(s), ok, tell(l.book()))
	}
}

func newBook(t *testing.T, cells ...int) impl.Book {
	t.Helper()
	s, ok := impl.NewBook(cells)
	if !ok {
		t.Fatal("NewBook refused", cells)
	}
	return s
}

// cellsWritten is s with WriteCell of each pair.
func cellsWritten(t *testing.T, s impl.Book, l ...impl.Undo) impl.Book {
	t.Helper()
	for _, p := range l {
		w, ok := impl.WriteCell(s, p.Cell, p.Was)
		if !ok {
			t.Fatal("WriteCell refused", p)
		}
		s = w
	}
	return s
}

func ended(t *testing.T, s impl.Book) impl.Book {
	t.Helper()
	e, ok := impl.EndEpoch(s)
	if !ok {
		t.Fatal("EndEpoch refused", s)
	}
	return e
}

// wantBack fails where s does not come back to these cells with an empty log, or BeforeOf tells others.
func wantBack(t *testing.T, s impl.Book, cells ...int) {
	t.Helper()
	before, told := impl.BeforeOf(s)
	back, ok := impl.RollBack(s)
	if !told || tell(before) != tell(cells) {
		t.Fatalf("BeforeOf %s: %v, %v, not %v", tell(s), before, told, cells)
	}
	if !ok || !impl.GoodBook(back) || tell(back.Cells) != tell(cells) || len(back.Log) != 0 {
		t.Fatalf("RollBack of %s: %s, %v, not %v", tell(s), tell(back), ok, cells)
	}
}
