package tests

import (
	"testing"

	"loop.example/g00620/impl"
)

// Promise 19, for chapter 11: every function answers at any arguments, and writes into none.

func TestNewWheel(t *testing.T) {
	for now := range nowMost + 1 {
		want(t, []any{timelineOf(now).wheel(), true}, impl.NewWheel, now)
	}
	for _, now := range badNows {
		wantZero(t, impl.NewWheel, now)
	}
	if impl.Spokes != rowCount || impl.MaxWait != aheadMost || impl.MaxTimers != timerMost {
		t.Fatal(impl.Spokes, impl.MaxWait, impl.MaxTimers)
	}
}

func TestGoodWheel(t *testing.T) {
	for _, l := range goodTimelines() {
		want(t, []any{true}, impl.GoodWheel, l.wheel())
	}
	for _, w := range badWheels() {
		want(t, []any{false}, impl.GoodWheel, w)
	}
	for near := range 12 {
		for far := range 12 {
			w := impl.Wheel{Now: 3, Near: make([][]impl.Timer, near), Far: make([][]impl.Timer, far)}
			want(t, []any{near == rowCount && far == rowCount}, impl.GoodWheel, w)
		}
	}
}

// A timer is good in one row alone of all, near or far, if it is good in any.
func TestGoodWheelPlaces(t *testing.T) {
	for _, now := range wheelTimes {
		for at := now - 10; at <= now+80; at++ {
			for row := range rowCount {
				near, far := timelineOf(now).wheel(), timelineOf(now).wheel()
				near.Near[row] = []impl.Timer{timerOf(4, at)}
				far.Far[row] = []impl.Timer{timerOf(4, at)}
				timely := at > now && at <= now+aheadMost
				isNear := at/rowCount == now/rowCount
				want(t, []any{timely && isNear && at%rowCount == row}, impl.GoodWheel, near)
				want(t, []any{timely && !isNear && at/rowCount%rowCount == row}, impl.GoodWheel, far)
			}
		}
	}
}

func TestGoodWheelIds(t *testing.T) {
	for first := -1; first <= idMost+2; first++ {
		for second := -1; second <= idMost+2; second++ {
			rising := first >= 1 && first < second && second <= idMost
			apart := first != second && min(first, second) >= 1 && max(first, second) <= idMost
			one, other := timerOf(first, 66), timerOf(second, 66)
			w := timelineOf(65).wheel()
			w.Near[2] = []impl.Timer{one, other}
			want(t, []any{rising}, impl.GoodWheel, w)
			other.At = 74
			w.Near[2], w.Far[1] = []impl.Timer{one}, []impl.Timer{other}
			want(t, []any{apart}, impl.GoodWheel, w)
			one.At = 72
			w.Near[2], w.Far[1] = nil, []impl.Timer{one, other}
			want(t, []any{rising}, impl.GoodWheel, w)
		}
	}
}

func TestGoodWheelMany(t *testing.T) {
	for many := range 3 * timerMost {
		near, both := timelineOf(0).wheel(), timelineOf(0).wheel()
		for id := 1; id <= many; id++ {
			near.Near[7] = append(near.Near[7], timerOf(id, 7))
			if id%2 == 0 {
				both.Near[1+id%7] = append(both.Near[1+id%7], timerOf(id, 1+id%7))
			} else {
				both.Far[1+id%7] = append(both.Far[1+id%7], timerOf(id, 8+id%7*8))
			}
		}
		want(t, []any{many <= timerMost}, impl.GoodWheel, near)
		want(t, []any{many <= timerMost}, impl.GoodWheel, both)
	}
}

func TestSetTimer(t *testing.T) {
	for k, l := range goodTimelines() {
		for _, id := range []int{1, 9, 2 + k%(idMost-2), idMost} {
			for _, wait := range []int{1, 8, 1 + k%setMost, setMost} {
				if l.has(id) || len(l.timers) == timerMost {
					wantZero(t, impl.SetTimer, l.wheel(), id, wait)
				} else {
					want(t, []any{l.set(id, wait).wheel(), true}, impl.SetTimer, l.wheel(), id, wait)
				}
			}
		}
		wantZero(t, impl.SetTimer, l.wheel(), 1+k%idMost, badWaits[k%len(badWaits)])
		wantZero(t, impl.SetTimer, l.wheel(), badIds[k%len(badIds)], 1+k%setMost)
	}
	for _, w := range badWheels() {
		wantZero(t, impl.SetTimer, w, 60, 1)
		wantZero(t, impl.SetTimer, w, 60, setMost)
	}
}

func TestSetTimerWrong(t *testing.T) {
	for _, l := range []timeline{timelineOf(0), timelineOf(nowMost), timelineOf(64, timerOf(1, 65)), fullTimeline(9, aheadMost)} {
		for _, id := range []int{1, 2, 50, idMost} {
			for _, wait := range badWaits {
				wantZero(t, impl.SetTimer, l.wheel(), id, wait)
			}
		}
		for _, id := range badIds {
			for _, wait := range []int{1, 8, setMost, 0, setMost + 1} {
				wantZero(t, impl.SetTimer, l.wheel(), id, wait)
			}
		}
	}
}

// Any Id at any wait, from a multiple of Spokes, ahead of one and behind one.
func TestSetTimerAnywhere(t *testing.T) {
	for _, now := range wheelNows {
		l := timelineOf(now, timerOf(40, now+3), timerOf(60, now+20))
		for id := -1; id <= idMost+2; id++ {
			for wait := -1; wait <= aheadMost+2; wait++ {
				if id < 1 || id > idMost || id == 40 || id == 60 || wait < 1 || wait > setMost {
					wantZero(t, impl.SetTimer, l.wheel(), id, wait)
				} else if (id+wait)%5 == 0 {
					want(t, []any{l.set(id, wait).wheel(), true}, impl.SetTimer, l.wheel(), id, wait)
				}
			}
		}
	}
}

func TestDropTimer(t *testing.T) {
	for _, l := range goodTimelines() {
		for id := 1; id <= idMost; id++ {
			if l.has(id) {
				want(t, []any{l.drop(id).wheel(), true}, impl.DropTimer, l.wheel(), id)
			} else if id%9 == 0 {
				wantZero(t, impl.DropTimer, l.wheel(), id)
			}
		}
		for _, id := range badIds {
			wantZero(t, impl.DropTimer, l.wheel(), id)
		}
	}
	for _, w := range badWheels() {
		for _, id := range []int{0, 1, 3, 5, 7, 99, 100} {
			wantZero(t, impl.DropTimer, w, id)
		}
	}
}

func TestTickWheel(t *testing.T) {
	for _, l := range goodTimelines() {
		if l.now == nowMost {
			wantZero(t, impl.TickWheel, l.wheel())
			continue
		}
		after, came := l.run(1)
		want(t, []any{after.wheel(), came, true}, impl.TickWheel, l.wheel())
	}
	for _, w := range badWheels() {
		wantZero(t, impl.TickWheel, w)
	}
}

func TestTimersOf(t *testing.T) {
	for _, l := range goodTimelines() {
		want(t, []any{l.timers, true}, impl.TimersOf, l.wheel())
	}
	for _, w := range badWheels() {
		wantZero(t, impl.TimersOf, w)
	}
}

func TestRunWheel(t *testing.T) {
	for _, l := range goodTimelines() {
		for _, ticks := range []int{0, 1, 2, 7, 8, 9, 55, 62, 63, 64, 65, tickMost - 1, tickMost} {
			if l.now+ticks > nowMost {
				wantZero(t, impl.RunWheel, l.wheel(), ticks)
				continue
			}
			after, came := l.run(ticks)
			want(t, []any{after.wheel(), came, true}, impl.RunWheel, l.wheel(), ticks)
		}
	}
	for _, w := range badWheels() {
		for _, ticks := range []int{0, 1, tickMost, -1, tickMost + 1} {
			wantZero(t, impl.RunWheel, w, ticks)
		}
	}
}

// Ticks may bring Now just to its last, and not past it; what would have come ahead of it is not told then.
func TestRunWheelLimits(t *testing.T) {
	for _, left := range []int{0, 1, 2, 8, 9, 63, tickMost - 1, tickMost, tickMost + 1, 300} {
		l := timelineOf(nowMost-left, timerOf(5, nowMost-left+1), timerOf(3, nowMost-left+aheadMost), timerOf(4, nowMost-left+9))
		for ticks := -2; ticks <= tickMost+2; ticks++ {
			if ticks < 0 || ticks > min(left, tickMost) {
				wantZero(t, impl.RunWheel, l.wheel(), ticks)
				continue
			}
			after, came := l.run(ticks)
			want(t, []any{after.wheel(), came, true}, impl.RunWheel, l.wheel(), ticks)
		}
		for _, ticks := range badTicks {
			wantZero(t, impl.RunWheel, l.wheel(), ticks)
		}
	}
}
