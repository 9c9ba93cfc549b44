package tests

import (
	"slices"
	"testing"

	"loop.example/g00620/impl"
)

// Told by number and not by the program's own constants.
const (
	shortCount = 4
	playCount  = 60
	hitCount   = 1000
)

func lookAt(at, may int) impl.WalkStep {
	return impl.WalkStep{Kind: 1, At: at, May: may}
}

func mapAt(at, page, may int) impl.WalkStep {
	return impl.WalkStep{Kind: 2, At: at, Page: page, May: may}
}

func unmapAt(at int) impl.WalkStep {
	return impl.WalkStep{Kind: 3, At: at}
}

func protectAt(at, may int) impl.WalkStep {
	return impl.WalkStep{Kind: 4, At: at, May: may}
}

// trail is what a walker should be, kept apart from the program: of what is kept only the places, the latest first.
type trail struct {
	chart
	kept []int
	hits int
}

// trailOf is a trail over a chart, with so many hits and these places kept.
func trailOf(c chart, hits int, kept ...int) trail {
	return trail{chart: c, kept: kept, hits: hits}
}

func (r trail) shorts() []impl.Short {
	var l []impl.Short
	for _, at := range r.kept {
		l = append(l, impl.Short{At: at, Page: r.page[at], May: r.may[at]})
	}
	return l
}

func (r trail) walker() impl.Walker {
	return impl.Walker{Table: r.table(), Kept: r.shorts(), Hits: r.hits}
}

// sameTrail says whether a walker is a trail, short way by short way.
func sameTrail(r trail, w impl.Walker) bool {
	return sameChart(r.chart, w.Table) && slices.Equal(r.shorts(), w.Kept) && r.hits == w.Hits
}

// without is what is kept but for one place.
func (r trail) without(at int) []int {
	return slices.DeleteFunc(slices.Clone(r.kept), func(k int) bool { return k == at })
}

// looked is the trail behind a look, and the answer to it.
func (r trail) looked(at, may int) (trail, int) {
	if slices.Contains(r.kept, at) {
		r.hits = min(r.hits+1, hitCount)
	} else if r.may[at] == 0 {
		return r, 0
	}
	r.kept = append([]int{at}, r.without(at)...)
	r.kept = r.kept[:min(len(r.kept), shortCount)]
	page, _, ok := r.walked(at, may)
	if !ok {
		return r, 0
	}
	return r, page + 1
}

// stepped is the trail behind a good step, and the answer to it.
func (r trail) stepped(s impl.WalkStep) (trail, int) {
	var after chart
	var ok bool
	switch s.Kind {
	case 1:
		return r.looked(s.At, s.May)
	case 2:
		after, ok = r.mapped(s.At, s.Page, s.May)
	case 3:
		after, ok = r.unmapped(s.At)
	case 4:
		after, ok = r.protected(s.At, s.May)
	}
	if !ok {
		return r, 0
	}
	return trail{chart: after, kept: r.without(s.At), hits: r.hits}, 1
}

// trailBehind is the trail behind steps from so many lists on, and the answers; a step that is not good is passed over.
func trailBehind(lists int, l []impl.WalkStep) (trail, []int) {
	r := trailOf(emptyChart(lists), 0)
	var answers []int
	for _, s := range l {
		answer := -1
		if allGoodSteps[s] {
			r, answer = r.stepped(s)
		}
		answers = append(answers, answer)
	}
	return r, answers
}

// allGoodSteps are all steps that are as said: they are few enough to be listed.
var allGoodSteps = func() map[impl.WalkStep]bool {
	all := map[impl.WalkStep]bool{}
	for at := range lookupPlaces {
		for _, s := range goodStepsAt(at) {
			all[s] = true
		}
	}
	return all
}()

func goodStepsAt(at int) []impl.WalkStep {
	l := []impl.WalkStep{unmapAt(at)}
	for may := 1; may <= allMays; may++ {
		l = append(l, lookAt(at, may), protectAt(at, may))
		for page := range pageCount {
			l = append(l, mapAt(at, page, may))
		}
	}
	return l
}

// goodTrails are trails over charts of all kinds: none kept, some and as many as may be, hits from 0 to the most.
func goodTrails() []trail {
	var l []trail
	next := numbersFrom(77)
	for k, c := range anyCharts() {
		l = append(l, trailOf(c, 0), trailOf(c, hitCount))
		places := c.places()
		for many := min(len(places), shortCount); many > 0; many-- {
			for i := range places {
				other := i + next(len(places)-i)
				places[i], places[other] = places[other], places[i]
			}
			hits := []int{0, 1, 500, hitCount - 1, hitCount}[(k+many)%5]
			l = append(l, trailOf(c, hits, slices.Clone(places[:many])...))
		}
	}
	return l
}

// badSteps are steps that are not as said, for each reason at least one that is so for it alone.
func badSteps() []impl.WalkStep {
	l := []impl.WalkStep{{}, {At: 5, May: 1}, {At: 5, Page: 7, May: 3}}
	for _, kind := range append([]int{-4, -1, 0, 5, 6, 8, 100}, farOff...) {
		for at := range lookupPlaces {
			l = append(l, impl.WalkStep{Kind: kind, At: at}, impl.WalkStep{Kind: kind, At: at, May: 1}, impl.WalkStep{Kind: kind, At: at, Page: 3, May: 2})
		}
	}
	for _, at := range badLookups {
		l = append(l, goodStepsAt(at)...)
	}
	for _, at := range []int{0, 5, 6, 9, lookupPlaces - 1} {
		for _, may := range badMays {
			l = append(l, lookAt(at, may), protectAt(at, may), mapAt(at, 0, may), mapAt(at, pageCount-1, may))
		}
		for _, page := range badPages {
			l = append(l, mapAt(at, page, 1), mapAt(at, page, allMays))
		}
		l = append(l, uselessFieldsAt(at)...)
	}
	return l
}

// uselessFieldsAt are steps with something in a field that their kind has no use for.
func uselessFieldsAt(at int) []impl.WalkStep {
	var l []impl.WalkStep
	for _, some := range append([]int{-16, -1, 1, 2, 3, 4, 7, pageCount - 1, pageCount, 100}, farOff...) {
		l = append(l, impl.WalkStep{Kind: 3, At: at, Page: some}, impl.WalkStep{Kind: 3, At: at, May: some}, impl.WalkStep{Kind: 3, At: at, Page: some, May: some})
		for may := 1; may <= allMays; may++ {
			l = append(l, impl.WalkStep{Kind: 1, At: at, Page: some, May: may}, impl.WalkStep{Kind: 4, At: at, Page: some, May: may})
		}
	}
	return l
}

// badWalkers are walkers that are not good, for each reason at least one that is so for it alone.
func badWalkers() []impl.Walker {
	var bad []impl.Walker
	for _, table := range badTables() {
		bad = append(bad, impl.Walker{Table: table})
	}
	for _, r := range []trail{
		trailOf(emptyChart(2), 0),
		trailOf(fullChart(4), 3, 12, 1, 7, 9),
		trailOf(chartOf(3, [4]int{2, -1, -1, 0}, 0, 1, 1, 15, 2, 2), hitCount, 15, 0),
		trailOf(chartOf(2, [4]int{-1, 1, -1, -1}, 5, 0, 1), 1, 5),
	} {
		bad = append(bad, badlyCounted(r)...)
		bad = append(bad, badlyKept(r)...)
		bad = append(bad, badlyTold(r)...)
	}
	return bad
}

func badlyCounted(r trail) []impl.Walker {
	var bad []impl.Walker
	for _, hits := range append([]int{-1000, -2, -1, hitCount + 1, hitCount + 2, 65536}, farOff...) {
		w := r.walker()
		w.Hits = hits
		bad = append(bad, w)
	}
	return bad
}

// badlyKept are a trail's walkers with too many short ways, with two At one place, or with one whose place is none.
func badlyKept(r trail) []impl.Walker {
	var bad []impl.Walker
	if places := r.places(); len(places) > shortCount {
		for _, many := range []int{shortCount + 1, shortCount + 2, len(places)} {
			bad = append(bad, trailOf(r.chart, r.hits, places[:many]...).walker())
		}
	}
	for k, at := range r.kept {
		for other := range len(r.kept) {
			if other != k {
				twice := slices.Clone(r.kept)
				twice[other] = at
				bad = append(bad, trailOf(r.chart, r.hits, twice...).walker())
			}
		}
		bad = append(bad, trailOf(r.chart, r.hits, at, at).walker())
	}
	for _, at := range badLookups {
		for _, short := range []impl.Short{{At: at}, {At: at, May: 1}, {At: at, Page: 1, May: 1}} {
			w := r.walker()
			w.Kept = append([]impl.Short{short}, w.Kept[:min(len(w.Kept), shortCount-1)]...)
			bad = append(bad, w)
		}
	}
	return bad
}

// badlyTold are a trail's walkers with one short way whose Page or May is not what the table has there.
func badlyTold(r trail) []impl.Walker {
	var bad []impl.Walker
	spoilt := func(kept []int, k int, page, may int) {
		w := trailOf(r.chart, r.hits, kept...).walker()
		w.Kept[k].Page, w.Kept[k].May = page, may
		bad = append(bad, w)
	}
	for k, at := range r.kept {
		for _, page := range append([]int{0, 1, 2, 3, pageCount - 1}, badPages...) {
			if page != r.page[at] {
				spoilt(r.kept, k, page, r.may[at])
			}
		}
		for _, may := range append([]int{1, 2, 3}, badMays...) {
			if may != r.may[at] {
				spoilt(r.kept, k, r.page[at], may)
			}
		}
		spoilt(r.kept, k, 0, 0)
	}
	for at, may := range r.may {
		if may == 0 && len(r.kept) < shortCount {
			kept := append(slices.Clone(r.kept), at)
			spoilt(kept, len(r.kept), 0, 1)
			spoilt(kept, len(r.kept), pageCount-1, allMays)
			spoilt(kept, len(r.kept), 1, 0)
			spoilt(kept, len(r.kept), -1, 0)
		}
	}
	return bad
}

// wantTrail fails where f does not answer a walker that is the trail, and the rest.
func wantTrail(t *testing.T, r trail, rest []any, f any, args ...any) {
	t.Helper()
	want(t, append([]any{r.walker()}, rest...), f, args...)
}
