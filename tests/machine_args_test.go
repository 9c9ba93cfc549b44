package tests

import (
	"slices"
	"testing"

	"loop.example/g00620/impl"
)

// Promise 19, for chapter 9: every function answers at any arguments, and writes into none.

var badStepCounts = append([]int{-60, -2, -1, stepsMost + 1, stepsMost + 2, 1000}, farOff...)

func TestGoodProgram(t *testing.T) {
	for _, p := range goodPrograms() {
		want(t, []any{true}, impl.GoodProgram, p)
	}
	for _, p := range badPrograms() {
		want(t, []any{false}, impl.GoodProgram, p)
	}
}

// TestGoodProgramKinds goes through kinds and numbers, near to their ends and beyond them.
func TestGoodProgramKinds(t *testing.T) {
	mostA := map[int]int{3: roomCount - 1, 4: roomCount - 1}
	mostN := map[int]int{1: wordMost, 2: wordMost, 5: programMost - 1}
	for kind := -1; kind <= 9; kind++ {
		for a := -1; a <= roomCount+1; a++ {
			for _, n := range []int{-1, 0, 1, 7, 8, 14, 15, 16, 17, 1000, wordMost - 1, wordMost, wordMost + 1} {
				good := kind >= 1 && kind <= 7 && a >= 0 && a <= mostA[kind] && n >= 0 && n <= mostN[kind]
				in := impl.Ins{Kind: kind, A: a, N: n}
				want(t, []any{good}, impl.GoodProgram, programOf(in))
				want(t, []any{good}, impl.GoodProgram, programOf(telling(), in, halting()))
			}
		}
	}
}

// One instruction that is not as said is found wherever it stands, and in programs of each length.
func TestGoodProgramPlaces(t *testing.T) {
	for many := range programMost + 4 {
		p := make([]impl.Ins, many)
		for k := range p {
			p[k] = telling()
		}
		want(t, []any{many >= 1 && many <= programMost}, impl.GoodProgram, p)
		for k := range p {
			for _, in := range []impl.Ins{{}, {Kind: 6, N: 1}, jumping(programMost), loading(roomCount)} {
				bad := slices.Clone(p)
				bad[k] = in
				want(t, []any{false}, impl.GoodProgram, bad)
			}
		}
	}
}

func TestGoodGuest(t *testing.T) {
	for _, b := range goodBeings() {
		want(t, []any{true}, impl.GoodGuest, b.guest())
	}
	for many := range toldMost + 1 {
		want(t, []any{true}, impl.GoodGuest, being{told: make([]int, many)}.guest())
		want(t, []any{true}, impl.GoodGuest, being{at: programMost, acc: wordMost, told: toldWords(many)}.ended().guest())
	}
	for _, g := range badGuests() {
		want(t, []any{false}, impl.GoodGuest, g)
	}
}

func TestNewGuest(t *testing.T) {
	for _, b := range goodBeings() {
		wantBeing(t, being{cells: b.cells}, impl.NewGuest, b.guest().Cells)
	}
	for many := range 3 * roomCount {
		if many != roomCount {
			wantZero(t, impl.NewGuest, make([]int, many))
		}
	}
	wantZero(t, impl.NewGuest, []int(nil))
	for _, word := range append([]int{-wordMost, -1, wordMost + 1}, farOff...) {
		for cell := range roomCount {
			cells := []int{1, 2, 0, wordMost, 5, 6, 7, 8}
			cells[cell] = word
			wantZero(t, impl.NewGuest, cells)
		}
	}
}

func TestStepGuest(t *testing.T) {
	beings := goodBeings()
	for k, p := range goodPrograms() {
		for many := range 12 {
			if b := beings[(k*3+many*17)%len(beings)]; b.done {
				wantZero(t, impl.StepGuest, p, b.guest())
			} else {
				wantBeing(t, b.moved(p), impl.StepGuest, p, b.guest())
			}
		}
	}
	for _, b := range beings {
		for _, p := range fewPrograms() {
			if b.done {
				wantZero(t, impl.StepGuest, p, b.guest())
			} else {
				wantBeing(t, b.moved(p), impl.StepGuest, p, b.guest())
			}
		}
	}
	wantRefused(t, impl.StepGuest)
}

// wantRefused fails where f, of a program, a guest and what is told behind them, does not refuse what is not good.
func wantRefused(t *testing.T, f any, behind ...any) {
	t.Helper()
	args := func(p []impl.Ins, g impl.Guest) []any { return append([]any{p, g}, behind...) }
	for _, p := range badPrograms() {
		wantZero(t, f, args(p, being{}.guest())...)
		wantZero(t, f, args(p, being{at: programMost, acc: 1}.guest())...)
		wantZero(t, f, args(p, being{}.ended().guest())...)
	}
	for _, g := range badGuests() {
		for _, p := range fewPrograms() {
			wantZero(t, f, args(p, g)...)
		}
	}
	wantZero(t, f, args(nil, impl.Guest{})...)
	wantZero(t, f, args(badPrograms()[2], badGuests()[0])...)
}

// TestStepGuestKinds tells for each kind of instruction what is behind it, at its edges.
func TestStepGuestKinds(t *testing.T) {
	cells := [roomCount]int{0, 11, 12, 13, 14, 15, 16, wordMost}
	with := func(cell, word int) [roomCount]int {
		other := cells
		other[cell] = word
		return other
	}
	for _, one := range []struct {
		in   impl.Ins
		acc  int
		said being
	}{
		{setting(0), 5, being{at: 4, acc: 0, cells: cells}},
		{setting(wordMost), 0, being{at: 4, acc: wordMost, cells: cells}},
		{adding(0), 5, being{at: 4, acc: 5, cells: cells}},
		{adding(0), wordMost, being{at: 4, acc: wordMost, cells: cells}},
		{adding(7), wordMost - 7, being{at: 4, acc: wordMost, cells: cells}},
		{adding(7), wordMost - 6, being{at: 4, acc: 0, cells: cells}},
		{adding(1), wordMost, being{at: 4, acc: 0, cells: cells}},
		{adding(wordMost), 1, being{at: 4, acc: 0, cells: cells}},
		{adding(wordMost), 9, being{at: 4, acc: 8, cells: cells}},
		{adding(wordMost), wordMost, being{at: 4, acc: wordMost - 1, cells: cells}},
		{loading(0), 5, being{at: 4, acc: 0, cells: cells}},
		{loading(3), 5, being{at: 4, acc: 13, cells: cells}},
		{loading(7), 5, being{at: 4, acc: wordMost, cells: cells}},
		{storing(0), 5, being{at: 4, acc: 5, cells: with(0, 5)}},
		{storing(4), 0, being{at: 4, acc: 0, cells: with(4, 0)}},
		{storing(7), wordMost, being{at: 4, acc: wordMost, cells: cells}},
		{storing(7), 6, being{at: 4, acc: 6, cells: with(7, 6)}},
		{jumping(0), 1, being{at: 0, acc: 1, cells: cells}},
		{jumping(0), 0, being{at: 4, acc: 0, cells: cells}},
		{jumping(3), wordMost, being{at: 3, acc: wordMost, cells: cells}},
		{jumping(5), 2, being{at: 5, acc: 2, cells: cells}},
		{jumping(6), 2, being{at: 6, acc: 2, cells: cells}},
		{jumping(15), 2, being{at: 15, acc: 2, cells: cells}},
		{jumping(15), 0, being{at: 4, acc: 0, cells: cells}},
		{telling(), 0, being{at: 4, acc: 0, cells: cells, told: []int{0}}},
		{telling(), wordMost, being{at: 4, acc: wordMost, cells: cells, told: []int{wordMost}}},
		{halting(), 5, being{at: 3, acc: 5, cells: cells, done: true}},
	} {
		was := being{at: 3, acc: one.acc, cells: cells}
		wantBeing(t, one.said, impl.StepGuest, programOf(halting(), telling(), halting(), one.in, telling(), setting(9)), was.guest())
		wantBeing(t, one.said, impl.StepGuest, programOf(halting(), telling(), halting(), one.in), was.guest())
	}
}

// The place behind the last instruction, and each one behind that, is the program's end.
func TestStepGuestPlaces(t *testing.T) {
	for many := 1; many <= programMost; many++ {
		p := make([]impl.Ins, many)
		for k := range p {
			p[k] = adding(k + 1)
		}
		for at := range programMost + 1 {
			b := being{at: at, acc: 70, told: toldWords(3)}
			said := b.ended()
			if at < many {
				said = b.gone(70 + at + 1)
			}
			wantBeing(t, said, impl.StepGuest, p, b.guest())
		}
	}
}

// What is told comes behind what was, up to 20; the 21st makes it done.
func TestStepGuestTells(t *testing.T) {
	for many := range toldMost + 1 {
		for _, acc := range []int{0, 3, wordMost} {
			b := being{at: 1, acc: acc, told: toldWords(many)}
			said := b.ended()
			if many < toldMost {
				said = b.gone(acc)
				said.told = append(toldWords(many), acc)
			}
			wantBeing(t, said, impl.StepGuest, programOf(halting(), telling()), b.guest())
		}
	}
}

func TestRunGuest(t *testing.T) {
	beings := goodBeings()
	for k, p := range goodPrograms() {
		for many := range 8 {
			b := beings[(k*9+many*19)%len(beings)]
			for _, steps := range []int{0, 1, 2, 5, 20, stepsMost - 1, stepsMost} {
				said, count, _ := b.ran(p, steps)
				want(t, []any{said.guest(), count, true}, impl.RunGuest, p, b.guest(), steps)
			}
		}
	}
	for _, p := range fewPrograms() {
		for _, b := range fewBeings() {
			for _, steps := range badStepCounts {
				wantZero(t, impl.RunGuest, p, b.guest(), steps)
			}
			for steps := range stepsMost + 1 {
				said, count, _ := b.ran(p, steps)
				want(t, []any{said.guest(), count, true}, impl.RunGuest, p, b.guest(), steps)
			}
		}
	}
	wantRefused(t, impl.RunGuest, 0)
	wantRefused(t, impl.RunGuest, 3)
	wantRefused(t, impl.RunGuest, stepsMost)
}

func TestTouchedBy(t *testing.T) {
	beings := goodBeings()
	for k, p := range goodPrograms() {
		for many := range 8 {
			b := beings[(k*5+many*23)%len(beings)]
			for _, steps := range []int{0, 1, 2, 3, 8, stepsMost} {
				_, _, cells := b.ran(p, steps)
				want(t, []any{cells, true}, impl.TouchedBy, p, b.guest(), steps)
			}
		}
	}
	for _, p := range fewPrograms() {
		for _, b := range fewBeings() {
			for _, steps := range badStepCounts {
				wantZero(t, impl.TouchedBy, p, b.guest(), steps)
			}
		}
	}
	wantRefused(t, impl.TouchedBy, 0)
	wantRefused(t, impl.TouchedBy, 3)
	wantRefused(t, impl.TouchedBy, stepsMost)
}

// All cells, from the last to the first, are told rising, each when its step is done.
func TestTouchedByRises(t *testing.T) {
	var p []impl.Ins
	var said []int
	for cell := roomCount - 1; cell >= 0; cell-- {
		p = append(p, storing(cell), telling())
	}
	for steps := range 2*roomCount + 3 {
		if steps%2 == 1 && steps < 2*roomCount {
			said = append([]int{p[steps-1].A}, said...)
		}
		want(t, []any{said, true}, impl.TouchedBy, p, being{}.guest(), steps)
		want(t, []any{[]int(nil), true}, impl.TouchedBy, p, being{}.ended().guest(), steps)
		want(t, []any{[]int(nil), true}, impl.TouchedBy, p, being{at: 16}.guest(), steps)
	}
}

func TestSameGuest(t *testing.T) {
	beings := goodBeings()
	for k, b := range beings {
		want(t, []any{true, true}, impl.SameGuest, b.guest(), b.guest())
		for many := 1; many < 6; many++ {
			other := beings[(k+many*29)%len(beings)]
			want(t, []any{sameBeing(b, other.guest()), true}, impl.SameGuest, b.guest(), other.guest())
		}
		for _, other := range nearBeings(b) {
			want(t, []any{false, true}, impl.SameGuest, b.guest(), other.guest())
			want(t, []any{false, true}, impl.SameGuest, other.guest(), b.guest())
		}
	}
	for k, g := range badGuests() {
		b := beings[k%len(beings)]
		wantZero(t, impl.SameGuest, g, b.guest())
		wantZero(t, impl.SameGuest, b.guest(), g)
		wantZero(t, impl.SameGuest, g, g)
	}
}

// nearBeings are all other than one in one thing alone.
func nearBeings(b being) []being {
	var l []being
	add := func(change func(b *being)) {
		other := b
		other.told = slices.Clone(b.told)
		change(&other)
		l = append(l, other)
	}
	add(func(b *being) { b.at = (b.at + 1) % (programMost + 1) })
	add(func(b *being) { b.acc ^= 1 })
	add(func(b *being) { b.done = !b.done })
	for cell := range roomCount {
		add(func(b *being) { b.cells[cell] ^= 1 })
	}
	for k := range b.told {
		add(func(b *being) { b.told[k] ^= 1 })
	}
	if many := len(b.told); many > 0 {
		add(func(b *being) { b.told = b.told[:many-1] })
	}
	if len(b.told) < toldMost {
		add(func(b *being) { b.told = append(b.told, 0) })
		add(func(b *being) { b.told = append([]int{0}, b.told...) })
	}
	return slices.DeleteFunc(l, func(other being) bool { return sameBeing(b, other.guest()) })
}

// Nothing told is one value, a list of none or no list; lists of noughts alone are unlike by their lengths.
func TestSameGuestToldNoughts(t *testing.T) {
	none, empty := being{}.guest(), being{}.guest()
	none.Told, empty.Told = nil, []int{}
	want(t, []any{true, true}, impl.SameGuest, none, empty)
	for many := range toldMost + 1 {
		for other := range toldMost + 1 {
			a, b := being{told: make([]int, many)}, being{told: make([]int, other)}
			want(t, []any{many == other, true}, impl.SameGuest, a.guest(), b.guest())
		}
	}
}

// Lists of one guest may be one in memory, and two guests too: each list that comes out is its own.
func TestGuestOfOneList(t *testing.T) {
	l := []int{1, 2, 3, 4, 5, 6, 7, 8}
	b := being{acc: 9, cells: [roomCount]int(l), told: slices.Clone(l)}
	g := impl.Guest{Acc: 9, Cells: l, Told: l}
	want(t, []any{true}, impl.GoodGuest, g)
	want(t, []any{true, true}, impl.SameGuest, g, g)
	p := programOf(storing(0), telling(), storing(7), halting())
	wantBeing(t, b.moved(p), impl.StepGuest, p, g)
	for steps := range 6 {
		said, many, cells := b.ran(p, steps)
		want(t, []any{said.guest(), many, true}, impl.RunGuest, p, g, steps)
		want(t, []any{cells, true}, impl.TouchedBy, p, g, steps)
	}
	if !slices.Equal(l, b.cells[:]) {
		t.Fatal(l)
	}
}
