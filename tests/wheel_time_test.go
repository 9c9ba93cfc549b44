package tests

import (
	"slices"
	"testing"

	"loop.example/g00620/impl"
)

// Promise 11: all timers come in the order of their times, each at its own.

// wantRuns fails where a run of any number of ticks is not the timeline's, or not that of so many ticks one by one, or where a wheel on the way is not good.
func wantRuns(t *testing.T, start impl.Wheel, l timeline) {
	t.Helper()
	w, all := start, []int(nil)
	for ticks := range l.toTheEnd() + 1 {
		after, came := runWheel(t, start, ticks)
		behind, said := l.run(ticks)
		if !slices.Equal(came, said) {
			t.Fatalf("%v: behind %d ticks came %v, not %v", start, ticks, came, said)
		}
		wantWheel(t, after, behind)
		if tell(after) != tell(w) || !slices.Equal(came, all) {
			t.Fatalf("%v: a run of %d is %v, %v, tick by tick %v, %v", start, ticks, after, came, w, all)
		}
		if ticks < nowMost-l.now {
			next, now, ok := impl.TickWheel(w)
			if !ok {
				t.Fatalf("%v does not tick", w)
			}
			w, all = next, append(all, now...)
		}
	}
}

// eachSetWheel goes through wheels from NewWheel at many times on whose timers were set at many moments, some of them dropped.
func eachSetWheel(t *testing.T, f func(w impl.Wheel, l timeline)) {
	next := numbersFrom(111)
	for _, now := range append([]int{500, 940, nowMost}, wheelNows...) {
		for range 12 {
			w, l := newWheel(t, now), timelineOf(now)
			for range 4 + next(12) {
				w, l = setSome(t, w, l, next)
				f(w, l)
				ticks := min(next(2)*next(30), l.toTheEnd())
				w, _ = runWheel(t, w, ticks)
				l, _ = l.run(ticks)
			}
		}
	}
}

// setSome sets some timers, and drops one now and then.
func setSome(t *testing.T, w impl.Wheel, l timeline, next func(int) int) (impl.Wheel, timeline) {
	t.Helper()
	for range next(8) {
		id, wait := 1+next(idMost), 1+next(1+next(setMost))
		if !l.has(id) && len(l.timers) < timerMost {
			w, l = setTimer(t, w, id, wait), l.set(id, wait)
			wantWheel(t, w, l)
		}
	}
	if next(3) == 0 && len(l.timers) > 0 {
		id := l.timers[next(len(l.timers))].Id
		after, ok := impl.DropTimer(w, id)
		if !ok {
			t.Fatalf("%v: timer %d does not go", w, id)
		}
		w, l = after, l.drop(id)
		wantWheel(t, w, l)
	}
	return w, l
}

// Each wait from each place in a row and in a round: nothing comes early or late.
func TestOneTimerComesAtItsTime(t *testing.T) {
	for _, now := range append([]int{1, 2, 3, 4, 5, 6, 15, 16, 57, 62, 65, 930}, wheelNows...) {
		for wait := 1; wait <= setMost; wait++ {
			w := setTimer(t, newWheel(t, now), 1+wait, wait)
			for ticks := 1; ticks <= min(aheadMost+1, nowMost-now); ticks++ {
				after, came, ok := impl.TickWheel(w)
				if !ok || after.Now != now+ticks || slices.Contains(came, 1+wait) != (ticks == wait) || len(came) > 1 {
					t.Fatalf("a wait of %d from %d: at %d came %v, %v", wait, now, after.Now, came, ok)
				}
				if left := waiting(t, after); (len(left) == 0) != (ticks >= wait) {
					t.Fatalf("a wait of %d from %d: at %d are left %v", wait, now, after.Now, left)
				}
				w = after
			}
		}
	}
}

func TestTimersComeInOrder(t *testing.T) {
	eachSetWheel(t, func(w impl.Wheel, l timeline) { wantRuns(t, w, l) })
}

// Also those that nobody could set, up to MaxWait ahead: the row Far that is one round away waits for its own round.
func TestTimersOfGoodWheelsComeInOrder(t *testing.T) {
	for _, l := range goodTimelines() {
		wantRuns(t, l.wheel(), l)
	}
}

// At all waits at once, by several wheels of which each has as many timers as may be.
func TestAllWaitsComeInOrder(t *testing.T) {
	for _, now := range wheelNows {
		for first := 1; first <= setMost; first += 7 {
			w, l := newWheel(t, now), timelineOf(now)
			for k := range timerMost {
				id, wait := idMost-4*k, 1+(first+17*k)%setMost
				w, l = setTimer(t, w, id, wait), l.set(id, wait)
			}
			wantWheel(t, w, l)
			wantRuns(t, w, l)
		}
	}
}

// Timers of one time come together, by their Ids, whenever each was set and however far it was then.
func TestTimersOfOneTimeComeTogether(t *testing.T) {
	for _, now := range wheelNows {
		for wait := 1; wait <= setMost; wait++ {
			at := now + wait
			w := newWheel(t, now)
			var ids []int
			for k, early := range []int{0, 1, 7, 8, 9, 20, 54} {
				if early >= wait || now+early > nowMost {
					break
				}
				w, _ = runWheel(t, w, now+early-w.Now)
				id := []int{50, 70, 30, 90, 10, 99, 1}[k]
				w, ids = setTimer(t, w, id, at-w.Now), append(ids, id)
			}
			slices.Sort(ids)
			if at > nowMost {
				continue
			}
			ahead, none := runWheel(t, w, at-1-w.Now)
			after, came, ok := impl.TickWheel(ahead)
			if !ok || len(none) != 0 || !slices.Equal(came, ids) || len(waiting(t, after)) != 0 {
				t.Fatalf("at %d came %v, and ahead of it %v, not %v", at, came, none, ids)
			}
		}
	}
}

// On both sides of a multiple of Spokes, and of Spokes times Spokes.
func TestTimersComeAtEachSideOfARound(t *testing.T) {
	for _, edge := range []int{8, 16, 56, 64, 72, 128, 936, 944, 960, 992, nowMost} {
		for back := 1; back <= setMost-2 && back <= edge; back++ {
			w, l := newWheel(t, edge-back), timelineOf(edge-back)
			for k, off := range []int{1, -1, 0, 2, -2, 1, 0, -1} {
				if wait := back + off; wait >= 1 {
					w, l = setTimer(t, w, 80-9*k, wait), l.set(80-9*k, wait)
				}
			}
			wantRuns(t, w, l)
		}
	}
}

// A row Far that comes near meets those that are set once it is near, by rising Id.
func TestFarTimersMeetNearOnes(t *testing.T) {
	for _, now := range []int{0, 1, 7, 8, 60, 63, 900} {
		edge := (now/rowCount + 1) * rowCount
		w := newWheel(t, now)
		for off := range rowCount {
			w = setTimer(t, w, 50+off, edge+off-now)
		}
		if got := len(w.Far[edge/rowCount%rowCount]); got != rowCount {
			t.Fatalf("%v: %d in the row Far", w, got)
		}
		w, came := runWheel(t, w, edge-now)
		if !slices.Equal(came, []int{50}) || len(w.Far[edge/rowCount%rowCount]) != 0 {
			t.Fatalf("%v: came %v", w, came)
		}
		for off := 1; off < rowCount-2; off++ {
			w = setTimer(t, setTimer(t, w, 10+off, off), 90+off, off)
			if ids := w.Near[off]; len(ids) != 3 || ids[0].Id != 10+off || ids[1].Id != 50+off || ids[2].Id != 90+off {
				t.Fatalf("%v: row %d", w, off)
			}
		}
		if _, came := runWheel(t, w, 3); !slices.Equal(came, []int{11, 51, 91, 12, 52, 92, 13, 53, 93}) {
			t.Fatalf("%v: came %v", w, came)
		}
	}
}

func TestWheelRunsInTwoParts(t *testing.T) {
	eachSetWheel(t, func(start impl.Wheel, l timeline) {
		most := l.toTheEnd()
		for _, ticks := range []int{0, 1, min(9, most), most} {
			whole, all, ok := impl.RunWheel(start, min(ticks, most))
			for cut := range min(ticks, most) + 1 {
				half, first := runWheel(t, start, cut)
				after, second := runWheel(t, half, min(ticks, most)-cut)
				if !ok || tell(after) != tell(whole) || !slices.Equal(append(first, second...), all) {
					t.Fatalf("%v: %d ticks cut at %d: %v, %v and %v, not %v, %v", start, ticks, cut, after, first, second, whole, all)
				}
			}
		}
	})
}

// What is left behind a run is what was told ahead of it with a later At.
func TestWhatIsLeftIsLater(t *testing.T) {
	eachSetWheel(t, func(start impl.Wheel, l timeline) {
		all := waiting(t, start)
		for ticks := range l.toTheEnd() + 1 {
			after, came := runWheel(t, start, ticks)
			var gone []int
			var later []impl.Timer
			for _, timer := range all {
				if timer.At > start.Now+ticks {
					later = append(later, timer)
				} else {
					gone = append(gone, timer.Id)
				}
			}
			if left := waiting(t, after); !slices.Equal(left, later) || !slices.Equal(came, gone) {
				t.Fatalf("%v: behind %d ticks came %v and are left %v, not %v and %v", start, ticks, came, left, gone, later)
			}
		}
	})
}

// A timer that was dropped never comes, and the others come as they would.
func TestDroppedTimersNeverCome(t *testing.T) {
	eachSetWheel(t, func(start impl.Wheel, l timeline) {
		most := l.toTheEnd()
		_, all := runWheel(t, start, most)
		for _, timer := range l.timers {
			for _, early := range []int{0, 1, 5, timer.At - 1 - l.now} {
				if early > most || l.now+early >= timer.At {
					continue
				}
				half, first := runWheel(t, start, early)
				dropped, ok := impl.DropTimer(half, timer.Id)
				if !ok || !impl.GoodWheel(dropped) {
					t.Fatalf("%v: timer %d does not go", half, timer.Id)
				}
				_, second := runWheel(t, dropped, most-early)
				others := slices.DeleteFunc(slices.Clone(all), func(id int) bool { return id == timer.Id })
				if came := append(first, second...); !slices.Equal(came, others) {
					t.Fatalf("%v: without %d came %v, not %v", start, timer.Id, came, others)
				}
			}
		}
	})
}

// An Id that came, or was dropped, may be set again.
func TestAnIdMayBeSetAgain(t *testing.T) {
	w := newWheel(t, 60)
	for round := range 10 {
		w = setTimer(t, w, 7, 5)
		if _, ok := impl.SetTimer(w, 7, 9); ok {
			t.Fatalf("round %d: set twice", round)
		}
		w, _ = runWheel(t, w, 4)
		if _, ok := impl.SetTimer(w, 7, 9); ok {
			t.Fatalf("round %d: set twice", round)
		}
		if round%2 == 0 {
			after, came := runWheel(t, w, 1)
			if w = after; !slices.Equal(came, []int{7}) {
				t.Fatalf("round %d: came %v", round, came)
			}
		} else {
			w, _ = impl.DropTimer(w, 7)
		}
	}
}
