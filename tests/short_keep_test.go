package tests

import (
	"slices"
	"testing"

	"loop.example/g00620/impl"
)

// Promise 7: what is kept tells just what the table does, whatever changed.

// someSteps are steps of few places, so that they are looked up again behind changes; a few of them are not good.
func someSteps(many int, next func(n int) int) []impl.WalkStep {
	var places [7]int
	for k := range places {
		places[k] = next(lookupPlaces)
	}
	few := 1 + next(len(places))
	var l []impl.WalkStep
	for range many {
		at, page, may := places[next(few)], next(pageCount), 1+next(allMays)
		switch next(11) {
		case 0, 1, 2, 3, 4:
			l = append(l, lookAt(at, may))
		case 5, 6, 7:
			l = append(l, mapAt(at, page, may))
		case 8:
			l = append(l, unmapAt(at))
		case 9:
			l = append(l, protectAt(at, may))
		case 10:
			bad := []impl.WalkStep{{}, lookAt(at, 0), lookAt(-1, may), mapAt(at, pageCount, may), {Kind: 3, At: at, May: may}, {Kind: 5, At: at, May: may}}
			l = append(l, bad[next(len(bad))])
		}
	}
	return l
}

// wantTrue fails where the walker is not good, where a short way tells other than its table does, or where one that
// went is still there behind the list's end.
func wantTrue(t *testing.T, w impl.Walker) {
	t.Helper()
	if !impl.GoodWalker(w) || len(w.Kept) > shortCount {
		t.Fatalf("no good walker: %v", w)
	}
	for k, short := range w.Kept {
		if seen := seenIn(t, w.Table)[short.At]; seen != leafSeen(short.Page, short.May) || short.May == 0 {
			t.Fatalf("%v is kept where the table tells %v", short, seen)
		}
		if kept, ok := impl.IsKept(w, short.At); !kept || !ok {
			t.Fatalf("%v: %v, %v", short, kept, ok)
		}
		if slices.ContainsFunc(w.Kept[:k], func(other impl.Short) bool { return other.At == short.At }) {
			t.Fatalf("kept twice: %v", w.Kept)
		}
	}
	for _, behind := range w.Kept[len(w.Kept):cap(w.Kept)] {
		if behind != (impl.Short{}) {
			t.Fatalf("behind %v stands %v", w.Kept, behind)
		}
	}
}

// wantPlayed fails where a walker's answers to steps are not those of the table alone, and as they should be, or where
// it is not what it should be. It answers the walker.
func wantPlayed(t *testing.T, lists int, l []impl.WalkStep) impl.Walker {
	t.Helper()
	w, answers, ok := impl.PlayWalker(lists, l)
	plain, fine := impl.PlayPlain(lists, l)
	if !ok || !fine || !slices.Equal(answers, plain) {
		t.Fatalf("%d, %v: by short ways %v, %v; by the table alone %v, %v", lists, l, answers, ok, plain, fine)
	}
	r, said := trailBehind(lists, l)
	if !slices.Equal(said, answers) || !sameTrail(r, w) {
		t.Fatalf("%d, %v: %v, %v, not %v, %v", lists, l, w, answers, r.walker(), said)
	}
	wantTrue(t, w)
	return w
}

// TestPlayedAsPlain plays many steps of many kinds.
func TestPlayedAsPlain(t *testing.T) {
	for lists := 1; lists <= wayCount; lists++ {
		next := numbersFrom(uint64(70 + lists))
		for range 1500 {
			wantPlayed(t, lists, someSteps(next(playCount+1), next))
		}
	}
}

// TestPlayedStepByStep plays each list of up to four steps of two places, one behind the other and all at once.
func TestPlayedStepByStep(t *testing.T) {
	var steps []impl.WalkStep
	for _, at := range []int{0, 5} {
		steps = append(steps, lookAt(at, 1), lookAt(at, 3), mapAt(at, 7, 3), mapAt(at, 0, 1), unmapAt(at), protectAt(at, 1), protectAt(at, 2))
	}
	var play func(w impl.Walker, lists int, l []impl.WalkStep)
	play = func(w impl.Walker, lists int, l []impl.WalkStep) {
		if all := wantPlayed(t, lists, l); tell(all) != tell(w) {
			t.Fatalf("%v: step by step %v, all at once %v", l, w, all)
		}
		if len(l) == 4 {
			return
		}
		for _, s := range steps {
			after, _, ok := impl.StepWalker(w, s)
			if !ok {
				t.Fatalf("%v: %v may not be done", l, s)
			}
			play(after, lists, append(slices.Clone(l), s))
		}
	}
	for lists := 1; lists <= 2; lists++ {
		for _, first := range steps {
			table, _ := impl.NewTable(lists)
			w, _ := impl.NewWalker(table)
			w, _, _ = impl.StepWalker(w, first)
			play(w, lists, []impl.WalkStep{first})
		}
	}
}

// stepOn is the walker behind a step; it fails where that may not be done, or where the answer is another one.
func stepOn(t *testing.T, w impl.Walker, s impl.WalkStep, answer int) impl.Walker {
	t.Helper()
	after, got, ok := impl.StepWalker(w, s)
	if !ok || got != answer {
		t.Fatalf("%v, %v: %d, %v, not %d", w, s, got, ok, answer)
	}
	wantTrue(t, after)
	return after
}

// wantAnyKept fails where just these places are not kept, in that order.
func wantAnyKept(t *testing.T, w impl.Walker, places ...int) {
	t.Helper()
	var kept []int
	for _, short := range w.Kept {
		kept = append(kept, short.At)
	}
	if !slices.Equal(kept, places) {
		t.Fatalf("kept are %v, not %v", kept, places)
	}
	for at := range lookupPlaces {
		if is, ok := impl.IsKept(w, at); is != slices.Contains(places, at) || !ok {
			t.Fatalf("kept are %v; %d: %v, %v", kept, at, is, ok)
		}
	}
}

// A place that was just looked up, where a leaf may something, is kept and comes first, whatever was asked; a second look is a hit.
func TestLookedUpComesFirst(t *testing.T) {
	for _, r := range goodTrails() {
		for at := range lookupPlaces {
			for may := 1; may <= allMays; may++ {
				page, _, found := r.walked(at, may)
				answer := 0
				if found {
					answer = 1 + page
				}
				once := stepOn(t, r.walker(), lookAt(at, may), answer)
				if r.may[at] == 0 {
					wantAnyKept(t, once, r.kept...)
					if once.Hits != r.hits {
						t.Fatalf("%v: a hit at %d, where nothing is", r, at)
					}
					continue
				}
				wantAnyKept(t, once, append([]int{at}, r.without(at)...)[:min(shortCount, 1+len(r.without(at)))]...)
				twice := stepOn(t, once, lookAt(at, may), answer)
				wantAnyKept(t, twice, append([]int{at}, r.without(at)...)[:len(once.Kept)]...)
				if twice.Hits != min(once.Hits+1, hitCount) {
					t.Fatalf("%v: %d hits, then %d", r, once.Hits, twice.Hits)
				}
			}
		}
	}
}

// A place that was changed is not kept, the others are, in their order; where nothing was changed all are.
func TestChangedIsNotKept(t *testing.T) {
	for _, r := range goodTrails() {
		for at := range lookupPlaces {
			for _, s := range []impl.WalkStep{mapAt(at, 3, 3), unmapAt(at), protectAt(at, 1), protectAt(at, 2), protectAt(at, 3)} {
				_, answer := r.stepped(s)
				after := stepOn(t, r.walker(), s, answer)
				if after.Hits != r.hits {
					t.Fatalf("%v: a hit by %v", r, s)
				}
				if answer == 1 {
					wantAnyKept(t, after, r.without(at)...)
					wantFresh(t, after, at)
				} else {
					wantAnyKept(t, after, r.kept...)
				}
			}
		}
	}
}

// wantFresh fails where a look at the place is a hit, or tells other than the table.
func wantFresh(t *testing.T, w impl.Walker, at int) {
	t.Helper()
	for may := 1; may <= allMays; may++ {
		answer := 0
		if page, _, ok := impl.WalkTo(w.Table, at, may); ok {
			answer = 1 + page
		}
		if after := stepOn(t, w, lookAt(at, may), answer); after.Hits != w.Hits {
			t.Fatalf("a hit at %d behind a change", at)
		}
	}
}

// The fifth sends the last one away, which is the one that was not looked up for the longest.
func TestFifthSendsTheLastAway(t *testing.T) {
	w := trailOf(fullChart(4), 0).walker()
	for _, one := range []struct {
		at, hits int
		kept     []int
	}{
		{3, 0, []int{3}},
		{8, 0, []int{8, 3}},
		{0, 0, []int{0, 8, 3}},
		{15, 0, []int{15, 0, 8, 3}},
		{4, 0, []int{4, 15, 0, 8}},
		{8, 1, []int{8, 4, 15, 0}},
		{8, 2, []int{8, 4, 15, 0}},
		{4, 3, []int{4, 8, 15, 0}},
		{0, 4, []int{0, 4, 8, 15}},
		{3, 4, []int{3, 0, 4, 8}},
		{15, 4, []int{15, 3, 0, 4}},
		{8, 4, []int{8, 15, 3, 0}},
	} {
		w, _, _ = impl.StepWalker(w, lookAt(one.at, 1))
		wantTrue(t, w)
		wantAnyKept(t, w, one.kept...)
		if w.Hits != one.hits {
			t.Fatalf("at %d: %d hits, not %d", one.at, w.Hits, one.hits)
		}
	}
}

// Behind a change the same place tells the new page, or the new may.
func TestChangesAreSeen(t *testing.T) {
	for at := range lookupPlaces {
		l := []impl.WalkStep{
			mapAt(at, 7, 3), lookAt(at, 2), lookAt(at, 2),
			protectAt(at, 1), lookAt(at, 2), lookAt(at, 1), lookAt(at, 2),
			unmapAt(at), lookAt(at, 1), lookAt(at, 1),
			mapAt(at, 12, 2), lookAt(at, 2), mapAt(at, 1, 1), lookAt(at, 2), lookAt(at, 1),
		}
		_, answers, ok := impl.PlayWalker(1, l)
		if said := []int{1, 8, 8, 1, 0, 8, 0, 1, 0, 0, 1, 13, 0, 13, 0}; !ok || !slices.Equal(answers, said) {
			t.Fatalf("at %d: %v, not %v", at, answers, said)
		}
		if w := wantPlayed(t, 1, l); w.Hits != 5 {
			t.Fatalf("at %d: %d hits", at, w.Hits)
		}
	}
}

// There are at most so many hits; beyond them the short way is used as ever.
func TestHitsEnd(t *testing.T) {
	w := trailOf(fullChart(4), hitCount-2, 6, 2).walker()
	for k, at := range []int{2, 2, 6, 2} {
		w, _, _ = impl.StepWalker(w, lookAt(at, 1))
		wantTrue(t, w)
		if w.Hits != min(hitCount, hitCount-1+k) || w.Kept[0].At != at {
			t.Fatalf("look %d: %v", k, w)
		}
	}
}

// Behind ForgetAll nothing is kept, the table and the hits are as they were, and the next look is none.
func TestForgottenIsNotKept(t *testing.T) {
	next := numbersFrom(79)
	for lists := 1; lists <= wayCount; lists++ {
		for range 100 {
			w := wantPlayed(t, lists, someSteps(playCount, next))
			after, ok := impl.ForgetAll(w)
			if !ok || after.Hits != w.Hits || tell(after.Table) != tell(w.Table) {
				t.Fatalf("%v: %v, %v", w, after, ok)
			}
			wantTrue(t, after)
			wantAnyKept(t, after)
			for at := range lookupPlaces {
				wantFresh(t, after, at)
			}
		}
	}
}
