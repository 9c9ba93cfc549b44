package tests

import (
	"slices"
	"testing"

	"loop.example/g00620/impl"
)

// Promise 9: a run is its steps, in two parts as in one, and only what is touched changes.

// alike says by the words themselves whether two guests are one.
func alike(a, b impl.Guest) bool {
	return a.At == b.At && a.Acc == b.Acc && a.Done == b.Done && slices.Equal(a.Cells, b.Cells) && slices.Equal(a.Told, b.Told)
}

// stepsFrom are the guest, and the guest behind each step that StepGuest does of it, up to the most that a run has.
func stepsFrom(t *testing.T, p []impl.Ins, g impl.Guest) []impl.Guest {
	t.Helper()
	l := []impl.Guest{g}
	for !g.Done && len(l) <= stepsMost {
		after, ok := impl.StepGuest(p, g)
		if !ok || !impl.GoodGuest(after) {
			t.Fatalf("%v, %v: no good step: %v, %v", p, g, after, ok)
		}
		l = append(l, after)
		g = after
	}
	return l
}

// run is RunGuest of what is good.
func run(t *testing.T, p []impl.Ins, g impl.Guest, steps int) (impl.Guest, int) {
	t.Helper()
	after, many, ok := impl.RunGuest(p, g, steps)
	if !ok {
		t.Fatalf("%v, %v: no run of %d", p, g, steps)
	}
	return after, many
}

// touched is TouchedBy of what is good.
func touched(t *testing.T, p []impl.Ins, g impl.Guest, steps int) []int {
	t.Helper()
	cells, ok := impl.TouchedBy(p, g, steps)
	if !ok {
		t.Fatalf("%v, %v: nothing told of %d", p, g, steps)
	}
	return cells
}

// eachRun goes through programs and guests of all kinds, one with some of the other.
func eachRun(f func(p []impl.Ins, g impl.Guest)) {
	beings := goodBeings()
	for k, p := range goodPrograms() {
		for _, b := range fewBeings() {
			f(p, b.guest())
		}
		for many := range 30 {
			f(p, beings[(k*7+many*11)%len(beings)].guest())
		}
	}
	next := numbersFrom(99)
	for range 600 {
		p := anyProgram(next)
		f(p, being{at: next(len(p) + 1), acc: next(2) * next(wordMost), cells: [roomCount]int{next(9), 0, 1, next(wordMost), 0, wordMost, 3, 2}, told: toldWords(next(4))}.guest())
	}
}

func TestRunIsItsSteps(t *testing.T) {
	eachRun(func(p []impl.Ins, g impl.Guest) {
		l := stepsFrom(t, p, g)
		for steps := range stepsMost + 1 {
			after, many := run(t, p, g, steps)
			if said := min(steps, len(l)-1); many != said || !alike(after, l[said]) {
				t.Fatalf("%v, %v: behind a run of %d: %v, %d steps, not %v, %d", p, g, steps, after, many, l[said], said)
			}
		}
	})
}

func TestRunInTwoParts(t *testing.T) {
	eachRun(func(p []impl.Ins, g impl.Guest) {
		for _, steps := range []int{0, 1, 2, 3, 7, 16, 33, stepsMost} {
			whole, many := run(t, p, g, steps)
			for cut := range steps + 1 {
				half, first := run(t, p, g, cut)
				after, second := run(t, p, half, steps-cut)
				if !alike(after, whole) || first+second != many {
					t.Fatalf("%v, %v: %d and %d steps: %v, %d and %d, not %v, %d", p, g, cut, steps-cut, after, first, second, whole, many)
				}
				if is, ok := impl.SameGuest(after, whole); !is || !ok {
					t.Fatalf("%v and %v: %v, %v", after, whole, is, ok)
				}
			}
		}
	})
}

// What both parts of a run touch is what the run touches.
func TestTouchedInTwoParts(t *testing.T) {
	eachRun(func(p []impl.Ins, g impl.Guest) {
		whole := touched(t, p, g, stepsMost)
		for cut := range stepsMost + 1 {
			half, _ := run(t, p, g, cut)
			both := append(touched(t, p, g, cut), touched(t, p, half, stepsMost-cut)...)
			slices.Sort(both)
			if !slices.Equal(slices.Compact(both), whole) {
				t.Fatalf("%v, %v: cut behind %d steps it touches %v, not %v", p, g, cut, both, whole)
			}
		}
	})
}

// storedIn are the cells, rising, of each InStore that stood at the place of a step.
func storedIn(p []impl.Ins, steps []impl.Guest) []int {
	var cells []int
	for _, g := range steps {
		if !g.Done && g.At < len(p) && p[g.At].Kind == 4 {
			cells = append(cells, p[g.At].A)
		}
	}
	slices.Sort(cells)
	return slices.Compact(cells)
}

func TestOnlyTouchedChanges(t *testing.T) {
	changes, again := 0, 0
	eachRun(func(p []impl.Ins, g impl.Guest) {
		l := stepsFrom(t, p, g)
		for _, steps := range []int{0, 1, 2, 5, 11, 30, stepsMost} {
			after, many := run(t, p, g, steps)
			cells := touched(t, p, g, steps)
			if said := storedIn(p, l[:many]); !slices.Equal(cells, said) {
				t.Fatalf("%v, %v: %d steps touch %v, not %v", p, g, steps, cells, said)
			}
			for cell := range roomCount {
				switch other, told := after.Cells[cell] != g.Cells[cell], slices.Contains(cells, cell); {
				case other && !told:
					t.Fatalf("%v, %v: behind %d steps cell %d is other, and %v are touched", p, g, steps, cell, cells)
				case other:
					changes++
				case told:
					again++
				}
			}
		}
	})
	if changes < 1000 || again < 1000 {
		t.Fatalf("too few of a kind: %d changed, %d set again", changes, again)
	}
}

// A cell that is set to the word that it had is told, once, as is one that is set back.
func TestSetAgainIsTouched(t *testing.T) {
	for cell := range roomCount {
		other := (cell + 3) % roomCount
		g := being{cells: [roomCount]int{11, 12, 13, 14, 15, 16, 17, 18}}.guest()
		for _, one := range []struct {
			p     []impl.Ins
			steps int
			cells []int
		}{
			{programOf(loading(cell), storing(cell)), 1, nil},
			{programOf(loading(cell), storing(cell)), 2, []int{cell}},
			{programOf(loading(cell), storing(cell), storing(cell)), stepsMost, []int{cell}},
			{programOf(setting(3), storing(cell), setting(11+cell), storing(cell)), 4, []int{cell}},
			{programOf(setting(1), storing(cell), jumping(0)), stepsMost, []int{cell}},
			{programOf(loading(cell), storing(cell), loading(other), storing(other)), 3, []int{cell}},
			{programOf(loading(cell), storing(cell), loading(other), storing(other)), 4, []int{min(cell, other), max(cell, other)}},
			{programOf(halting(), storing(cell)), stepsMost, nil},
			{programOf(setting(1), jumping(4), storing(other), halting(), storing(cell)), stepsMost, []int{cell}},
		} {
			if cells := touched(t, one.p, g, one.steps); !slices.Equal(cells, one.cells) {
				t.Fatalf("%v: %d steps touch %v, not %v", one.p, one.steps, cells, one.cells)
			}
		}
	}
}

// A step makes it done just for one of the three reasons, and changes nothing else then.
func TestDoneChangesNothingElse(t *testing.T) {
	var reasons [3]int
	one := func(p []impl.Ins, was impl.Guest) {
		after, ok := impl.StepGuest(p, was)
		behind := was.At >= len(p)
		halts := !behind && p[was.At].Kind == 7
		full := !behind && p[was.At].Kind == 6 && len(was.Told) == toldMost
		if !ok || after.Done != (behind || halts || full) {
			t.Fatalf("%v, %v: %v, %v", p, was, after, ok)
		}
		for k, is := range []bool{behind, halts, full} {
			if is {
				reasons[k]++
			}
		}
		said := was
		said.Done = true
		if after.Done && !alike(after, said) {
			t.Fatalf("%v, %v: done, and other: %v", p, was, after)
		}
	}
	eachRun(func(p []impl.Ins, g impl.Guest) {
		for _, was := range stepsFrom(t, p, g) {
			if !was.Done {
				one(p, was)
			}
		}
	})
	if slices.Min(reasons[:]) < 100 {
		t.Fatalf("too few of a kind: %v", reasons)
	}
}

// Of one that is done no step is done, and a run of it is none.
func TestDoneStaysAsItIs(t *testing.T) {
	eachRun(func(p []impl.Ins, g impl.Guest) {
		g.Done = true
		if after, ok := impl.StepGuest(p, g); ok || !alike(after, impl.Guest{}) {
			t.Fatalf("%v, %v: a step: %v, %v", p, g, after, ok)
		}
		for _, steps := range []int{0, 1, 17, stepsMost} {
			if after, many := run(t, p, g, steps); many != 0 || !alike(after, g) {
				t.Fatalf("%v, %v: a run of %d: %v, %d", p, g, steps, after, many)
			}
			if cells := touched(t, p, g, steps); len(cells) != 0 {
				t.Fatalf("%v, %v: a run of %d touches %v", p, g, steps, cells)
			}
		}
	})
}

// A run does what the instructions say, told apart from the program.
func TestRunDoesWhatItSays(t *testing.T) {
	beings := goodBeings()
	for k, p := range goodPrograms() {
		for many := range 12 {
			b := beings[(k*5+many*13)%len(beings)]
			for steps := range stepsMost + 1 {
				said, count, _ := b.ran(p, steps)
				if after, n := run(t, p, b.guest(), steps); n != count || !sameBeing(said, after) {
					t.Fatalf("%v, %v: behind %d steps %v, %d, not %v, %d", p, b, steps, after, n, said, count)
				}
			}
		}
	}
}

// Loops that never halt take all the steps that they are given; those that tell do so till no more may be told.
func TestLoopsEnd(t *testing.T) {
	for _, one := range []struct {
		p     []impl.Ins
		b     being
		steps int
		said  being
		many  int
	}{
		{programOf(jumping(0)), being{acc: 1}, 60, being{acc: 1}, 60},
		{programOf(jumping(0)), being{}, 60, being{at: 1}.ended(), 2},
		{programOf(adding(1), jumping(0)), being{}, 60, being{acc: 30}, 60},
		{programOf(adding(1), jumping(0)), being{}, 59, being{at: 1, acc: 30}, 59},
		{programOf(adding(1), jumping(0)), being{acc: wordMost - 2}, 60, being{at: 2}.ended(), 7},
		{programOf(setting(3), telling(), jumping(1)), being{told: toldWords(17)}, 60, being{at: 1, acc: 3, told: append(toldWords(17), 3, 3, 3)}.ended(), 8},
		{programOf(telling(), jumping(0)), being{acc: 9, told: toldWords(19)}, 2, being{acc: 9, told: append(toldWords(19), 9)}, 2},
		{programOf(telling(), jumping(0)), being{acc: 9, told: toldWords(19)}, 3, being{acc: 9, told: append(toldWords(19), 9)}.ended(), 3},
		{programOf(setting(1), jumping(15)), being{}, 60, being{at: 15, acc: 1}.ended(), 3},
		{programOf(setting(1), jumping(15)), being{}, 2, being{at: 15, acc: 1}, 2},
		{longPrograms()[0], being{}, 16, being{at: 16, acc: 120}, 16},
		{longPrograms()[0], being{}, 60, being{at: 16, acc: 120}.ended(), 17},
		{longPrograms()[3], being{acc: 2, told: toldWords(4)}, 60, being{at: 16, acc: 2, told: append(toldWords(4), 2, 2, 2, 2, 2, 2, 2, 2, 2, 2, 2, 2, 2, 2, 2, 2)}.ended(), 17},
		{longPrograms()[4], being{}, 60, being{at: 12, acc: 3*105 + 66}, 60},
	} {
		after, many := run(t, one.p, one.b.guest(), one.steps)
		if many != one.many || !sameBeing(one.said, after) {
			t.Errorf("%v, %v: behind %d steps %v, %d, not %v, %d", one.p, one.b, one.steps, after, many, one.said, one.many)
		}
	}
}

// Runs one behind the other, of any lengths, are the steps one behind the other, also more than one run takes.
func TestRunsOfManyCuts(t *testing.T) {
	next := numbersFrom(909)
	for range 300 {
		p := anyProgram(next)
		b := being{acc: next(5), cells: [roomCount]int{0, 1, 2, 3, wordMost, 5, next(wordMost), 0}}
		g, all := b.guest(), 0
		for all < 400 && !g.Done {
			steps := next(9)
			after, many := run(t, p, g, steps)
			for range many {
				b = b.moved(p)
			}
			if !sameBeing(b, after) || many != steps && !after.Done {
				t.Fatalf("%v: behind %d steps, %d of them: %v, not %v", p, steps, many, after, b)
			}
			g, all = after, all+many+1
		}
	}
}
