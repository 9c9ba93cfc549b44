package tests

import (
	"slices"
	"testing"

	"loop.example/g00620/impl"
)

// Promise 19, for chapter 7: every function answers at any arguments, and writes into none.

func TestNewWalker(t *testing.T) {
	for _, c := range anyCharts() {
		wantTrail(t, trailOf(c, 0), []any{true}, impl.NewWalker, c.table())
	}
	for _, table := range badTables() {
		wantZero(t, impl.NewWalker, table)
	}
}

func TestGoodWalker(t *testing.T) {
	for _, r := range goodTrails() {
		want(t, []any{true}, impl.GoodWalker, r.walker())
	}
	for _, w := range badWalkers() {
		want(t, []any{false}, impl.GoodWalker, w)
	}
}

// TestGoodHits goes through how many hits there may have been, and some more.
func TestGoodHits(t *testing.T) {
	for hits := -5; hits <= hitCount+5; hits++ {
		w := trailOf(fullChart(2), hits, 3, 4).walker()
		want(t, []any{hits >= 0 && hits <= hitCount}, impl.GoodWalker, w)
	}
}

// TestGoodKept goes through lists of up to three places, with each number of them.
func TestGoodKept(t *testing.T) {
	c := fullChart(4)
	for a := range lookupPlaces {
		want(t, []any{true}, impl.GoodWalker, trailOf(c, 0, a).walker())
		for b := range lookupPlaces {
			want(t, []any{a != b}, impl.GoodWalker, trailOf(c, 0, a, b).walker())
			other := (a + b + 1) % lookupPlaces
			good := a != b && other != a && other != b
			want(t, []any{good}, impl.GoodWalker, trailOf(c, 0, a, other, b).walker())
		}
	}
	for many := range lookupPlaces + 1 {
		want(t, []any{many <= shortCount}, impl.GoodWalker, trailOf(c, 0, c.places()[:many]...).walker())
	}
}

// TestGoodShort goes through what one short way may tell, of a leaf that may each, and of places that may nothing.
func TestGoodShort(t *testing.T) {
	c := chartOf(2, [4]int{-1, 1, -1, -1}, 4, 0, 1, 5, 7, 2, 6, 15, 3)
	for at := range lookupPlaces {
		for page := -1; page <= pageCount; page++ {
			for may := -1; may <= allMays+1; may++ {
				w := impl.Walker{Table: c.table(), Kept: []impl.Short{{At: at, Page: page, May: may}}}
				// What the table has at a place that may nothing is Page 0 and May 0.
				good := page == c.page[at] && may == c.may[at]
				want(t, []any{good}, impl.GoodWalker, w)
			}
		}
	}
}

func TestStepWalker(t *testing.T) {
	for _, r := range goodTrails() {
		for at := range lookupPlaces {
			steps := []impl.WalkStep{unmapAt(at)}
			for may := 1; may <= allMays; may++ {
				steps = append(steps, lookAt(at, may), protectAt(at, may), mapAt(at, (at+may*5)%pageCount, may))
			}
			for _, s := range append(steps, mapAt(at, 0, 1), mapAt(at, pageCount-1, allMays)) {
				after, answer := r.stepped(s)
				wantTrail(t, after, []any{answer, true}, impl.StepWalker, r.walker(), s)
			}
		}
	}
}

// Each may that a leaf has, and each that one asks for, by the table and by a short way.
func TestStepWalkerMays(t *testing.T) {
	for _, one := range []struct{ has, asked, answer int }{
		{0, 1, 0}, {0, 2, 0}, {0, 3, 0},
		{1, 1, 14}, {1, 2, 0}, {1, 3, 0},
		{2, 1, 0}, {2, 2, 14}, {2, 3, 0},
		{3, 1, 14}, {3, 2, 14}, {3, 3, 14},
	} {
		c := chartOf(2, [4]int{-1, -1, 1, -1}, 8, 4, 1)
		if one.has == 0 {
			wantTrail(t, trailOf(c, 2, 8), []any{0, true}, impl.StepWalker, trailOf(c, 2, 8).walker(), lookAt(9, one.asked))
			continue
		}
		c.page[9], c.may[9] = 13, one.has
		wantTrail(t, trailOf(c, 2, 9, 8), []any{one.answer, true}, impl.StepWalker, trailOf(c, 2, 8).walker(), lookAt(9, one.asked))
		wantTrail(t, trailOf(c, 3, 9, 8), []any{one.answer, true}, impl.StepWalker, trailOf(c, 2, 8, 9).walker(), lookAt(9, one.asked))
	}
}

// A short way that was handed in for a place that may nothing is good, is used, and goes with a change there.
func TestStepWalkerNothingKept(t *testing.T) {
	for _, c := range []chart{chartOf(2, [4]int{-1, 1, -1, -1}, 4, 3, 3), emptyChart(1), chartOf(1, [4]int{-1, 0, -1, -1})} {
		r := trailOf(c, 6, 9, 5)
		want(t, []any{true}, impl.GoodWalker, r.walker())
		want(t, []any{true, true}, impl.IsKept, r.walker(), 5)
		wantTrail(t, trailOf(c, 7, 5, 9), []any{0, true}, impl.StepWalker, r.walker(), lookAt(5, 1))
		wantTrail(t, r, []any{0, true}, impl.StepWalker, r.walker(), unmapAt(5))
		after, _ := c.mapped(5, 11, 1)
		wantTrail(t, trailOf(after, 6, 9), []any{1, true}, impl.StepWalker, r.walker(), mapAt(5, 11, 1))
	}
}

func TestStepWalkerWrong(t *testing.T) {
	steps := badSteps()
	for _, r := range []trail{
		trailOf(emptyChart(1), 0),
		trailOf(fullChart(4), hitCount, 5, 0, 9, 15),
		trailOf(chartOf(3, [4]int{2, -1, -1, 0}, 0, 1, 1, 15, 2, 2), 1, 0),
	} {
		for _, s := range steps {
			wantZero(t, impl.StepWalker, r.walker(), s)
		}
	}
	for _, w := range badWalkers() {
		for _, s := range []impl.WalkStep{lookAt(0, 1), mapAt(1, 0, 1), mapAt(4, pageCount-1, allMays), unmapAt(5), protectAt(15, 2), {}} {
			wantZero(t, impl.StepWalker, w, s)
		}
	}
}

// playLists are lists of steps, from none to as many as may be; not all of their steps are good.
func playLists() [][]impl.WalkStep {
	l := [][]impl.WalkStep{
		nil,
		{},
		{lookAt(0, 1)},
		{mapAt(5, 7, 3), lookAt(5, 1), lookAt(5, 1), unmapAt(5), lookAt(5, 1)},
		{mapAt(0, 0, 1), mapAt(15, 15, 3), lookAt(0, 1), lookAt(15, 3), {}, lookAt(0, 2), protectAt(0, 2), lookAt(0, 2)},
		slices.Repeat([]impl.WalkStep{lookAt(3, 1)}, playCount),
		append([]impl.WalkStep{mapAt(3, 2, 1)}, slices.Repeat([]impl.WalkStep{lookAt(3, 1)}, playCount-1)...),
	}
	next := numbersFrom(78)
	for many := range playCount + 1 {
		l = append(l, someSteps(many, next), someSteps(many, next))
	}
	return l
}

func TestPlayWalker(t *testing.T) {
	for lists := 1; lists <= wayCount; lists++ {
		for _, l := range playLists() {
			r, answers := trailBehind(lists, l)
			wantTrail(t, r, []any{answers, true}, impl.PlayWalker, lists, l)
		}
	}
	wantNotPlayed(t, impl.PlayWalker)
}

func TestPlayPlain(t *testing.T) {
	for lists := 1; lists <= wayCount; lists++ {
		for _, l := range playLists() {
			_, answers := trailBehind(lists, l)
			want(t, []any{answers, true}, impl.PlayPlain, lists, l)
		}
	}
	wantNotPlayed(t, impl.PlayPlain)
}

// wantNotPlayed fails where f does not refuse numbers of lists that are none, and too many steps, good ones or not.
func wantNotPlayed(t *testing.T, f any) {
	t.Helper()
	for _, lists := range badListCount {
		for _, l := range [][]impl.WalkStep{nil, {lookAt(0, 1)}, {mapAt(5, 7, 3), lookAt(5, 1)}, make([]impl.WalkStep, playCount+1)} {
			wantZero(t, f, lists, l)
		}
	}
	for lists := 1; lists <= wayCount; lists++ {
		for _, many := range []int{playCount + 1, playCount + 2, 2 * playCount, 1000} {
			wantZero(t, f, lists, slices.Repeat([]impl.WalkStep{mapAt(3, 2, 1)}, many))
			wantZero(t, f, lists, make([]impl.WalkStep, many))
		}
	}
}

// A step that is not as said answers -1 wherever it stands, and changes nothing.
func TestPlayedBadSteps(t *testing.T) {
	good := []impl.WalkStep{mapAt(5, 7, 3), lookAt(5, 1), mapAt(9, 2, 1), lookAt(9, 2), lookAt(5, 2)}
	r, said := trailBehind(2, good)
	if !slices.Equal(said, []int{1, 8, 1, 0, 8}) {
		t.Fatal(said)
	}
	for k, s := range badSteps() {
		at := k % (len(good) + 1)
		l, answers := slices.Insert(slices.Clone(good), at, s), slices.Insert(slices.Clone(said), at, -1)
		wantTrail(t, r, []any{answers, true}, impl.PlayWalker, 2, l)
		want(t, []any{answers, true}, impl.PlayPlain, 2, l)
	}
}

func TestIsKept(t *testing.T) {
	for _, r := range goodTrails() {
		for at := range lookupPlaces {
			want(t, []any{slices.Contains(r.kept, at), true}, impl.IsKept, r.walker(), at)
		}
		for _, at := range badLookups {
			wantZero(t, impl.IsKept, r.walker(), at)
		}
	}
	for _, w := range badWalkers() {
		for _, at := range []int{0, 1, 5, 15, -1} {
			wantZero(t, impl.IsKept, w, at)
		}
	}
}

func TestForgetAll(t *testing.T) {
	for _, r := range goodTrails() {
		wantTrail(t, trailOf(r.chart, r.hits), []any{true}, impl.ForgetAll, r.walker())
	}
	for _, w := range badWalkers() {
		wantZero(t, impl.ForgetAll, w)
	}
}
