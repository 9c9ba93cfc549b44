package tests

import (
	"slices"
	"testing"

	"loop.example/g00620/impl"
)

// Told by number and not by the program's own constants.
const (
	rowCount  = 8
	aheadMost = 63
	setMost   = 55
	timerMost = 20
	idMost    = 99
	nowMost   = 1000
	tickMost  = 100
)

func timerOf(id, at int) impl.Timer {
	return impl.Timer{Id: id, At: at}
}

// timeline is a wheel without its rows: its timers by rising At, then Id.
type timeline struct {
	now    int
	timers []impl.Timer
}

func timelineOf(now int, timers ...impl.Timer) timeline {
	timers = slices.Clone(timers)
	slices.SortFunc(timers, func(a, b impl.Timer) int { return 100*(a.At-b.At) + a.Id - b.Id })
	return timeline{now, timers}
}

// set is the timeline with one timer more.
func (l timeline) set(id, wait int) timeline {
	return timelineOf(l.now, append(slices.Clone(l.timers), timerOf(id, l.now+wait))...)
}

func (l timeline) has(id int) bool {
	return slices.ContainsFunc(l.timers, func(timer impl.Timer) bool { return timer.Id == id })
}

func (l timeline) drop(id int) timeline {
	return timeline{l.now, slices.DeleteFunc(slices.Clone(l.timers), func(timer impl.Timer) bool { return timer.Id == id })}
}

// run is the timeline so many ticks later, and the Ids of those that came.
func (l timeline) run(ticks int) (timeline, []int) {
	var came []int
	k := 0
	for k < len(l.timers) && l.timers[k].At <= l.now+ticks {
		came = append(came, l.timers[k].Id)
		k++
	}
	return timeline{l.now + ticks, slices.Clone(l.timers[k:])}, came
}

// wheel has each timer, by rising Id, behind those that are in its row.
func (l timeline) wheel() impl.Wheel {
	w := impl.Wheel{Now: l.now, Near: make([][]impl.Timer, rowCount), Far: make([][]impl.Timer, rowCount)}
	byId := slices.Clone(l.timers)
	slices.SortFunc(byId, func(a, b impl.Timer) int { return a.Id - b.Id })
	for _, timer := range byId {
		row, rows := timer.At/rowCount%rowCount, w.Far
		if timer.At/rowCount == l.now/rowCount {
			row, rows = timer.At%rowCount, w.Near
		}
		rows[row] = append(rows[row], timer)
	}
	return w
}

// toTheEnd is how many ticks one run may have.
func (l timeline) toTheEnd() int {
	return min(tickMost, nowMost-l.now)
}

// waiting are TimersOf of what is good.
func waiting(t *testing.T, w impl.Wheel) []impl.Timer {
	t.Helper()
	l, ok := impl.TimersOf(w)
	if !ok || !impl.GoodWheel(w) {
		t.Fatalf("%v is not good", w)
	}
	return l
}

// wantWheel fails where a wheel is not the timeline's, or not good.
func wantWheel(t *testing.T, w impl.Wheel, l timeline) {
	t.Helper()
	if said := l.wheel(); tell(w) != tell(said) {
		t.Fatalf("%v: %v, not %v", l, w, said)
	}
	if timers := waiting(t, w); !slices.Equal(timers, l.timers) {
		t.Fatalf("%v: timers %v, not %v", w, timers, l.timers)
	}
}

// newWheel is NewWheel of what is good.
func newWheel(t *testing.T, now int) impl.Wheel {
	t.Helper()
	w, ok := impl.NewWheel(now)
	if !ok {
		t.Fatalf("no wheel at %d", now)
	}
	wantWheel(t, w, timelineOf(now))
	return w
}

// setTimer is SetTimer of what is good.
func setTimer(t *testing.T, w impl.Wheel, id, wait int) impl.Wheel {
	t.Helper()
	after, ok := impl.SetTimer(w, id, wait)
	if !ok {
		t.Fatalf("%v: no timer %d with a wait of %d", w, id, wait)
	}
	return after
}

// runWheel is RunWheel of what is good.
func runWheel(t *testing.T, w impl.Wheel, ticks int) (impl.Wheel, []int) {
	t.Helper()
	after, came, ok := impl.RunWheel(w, ticks)
	if !ok {
		t.Fatalf("%v: no %d ticks", w, ticks)
	}
	return after, came
}

// wheelNows are the times at which wheels begin: ahead of a multiple of Spokes, and of Spokes times Spokes, at it and behind it, and near the last one.
var wheelNows = []int{0, 7, 8, 9, 63, 64, 937, 999}

// wheelTimes are more of them, up to the last.
var wheelTimes = append([]int{1, 55, 56, 65, 127, 128, 500, 900, 936, 938, 945, 992, 993, nowMost}, wheelNows...)

// goodTimelines are timelines of good wheels: with no timer, with one at each distance, with several of one At, with as many as may be, and mixed ones.
func goodTimelines() []timeline {
	var l []timeline
	next := numbersFrom(11)
	for _, now := range wheelTimes {
		l = append(l, timelineOf(now), fullTimeline(now, 1), fullTimeline(now, aheadMost), fullTimeline(now, setMost))
		for ahead := 1; ahead <= aheadMost; ahead++ {
			l = append(l, timelineOf(now, timerOf(1+(7*ahead+now)%idMost, now+ahead)))
		}
		l = append(l,
			timelineOf(now, timerOf(9, now+1), timerOf(2, now+1), timerOf(99, now+1), timerOf(1, now+1)),
			timelineOf(now, timerOf(1, now+aheadMost), timerOf(99, now+aheadMost), timerOf(50, now+1)),
			timelineOf(now, timerOf(3, now+8), timerOf(2, now+16), timerOf(1, now+9), timerOf(4, now+7)))
		for range 4 {
			l = append(l, mixedTimeline(now, next))
		}
	}
	return l
}

// fullTimeline has MaxTimers timers, at times that go round from 1 to most ahead.
func fullTimeline(now, most int) timeline {
	var timers []impl.Timer
	for k := range timerMost {
		timers = append(timers, timerOf(idMost-5*k+k%3, now+1+(11*k+most-1)%most))
	}
	return timelineOf(now, timers...)
}

func mixedTimeline(now int, next func(int) int) timeline {
	l := timelineOf(now)
	for range next(timerMost + 1) {
		if id := 1 + next(idMost); !l.has(id) {
			l = l.set(id, 1+next(1+next(aheadMost)))
		}
	}
	return l
}

var (
	badNows  = append([]int{-8, -1, nowMost + 1, nowMost + 8, 1024}, farOff...)
	badIds   = append([]int{-99, -1, 0, idMost + 1, 109}, farOff...)
	badWaits = append([]int{-8, -1, 0, setMost + 1, aheadMost, aheadMost + 1, 64}, farOff...)
	badTicks = append([]int{-100, -1, tickMost + 1, tickMost + 8, 1000}, farOff...)
)

// badWheels are wheels that are not good, each for one reason.
func badWheels() []impl.Wheel {
	bad := []impl.Wheel{{}, {Now: 5}}
	for _, now := range badNows {
		bad = append(bad, timelineOf(now).wheel())
	}
	for _, l := range []timeline{timelineOf(0), timelineOf(9), timelineOf(9, timerOf(5, 12), timerOf(7, 30)), timelineOf(nowMost, timerOf(2, 1063))} {
		bad = append(bad, wheelsOfOtherRows(l)...)
		bad = append(bad, wheelsSpoilt(l)...)
	}
	bad = append(bad, wheelsOfOtherRows(fullTimeline(64, setMost))...)
	return append(bad, wheelsUnordered()...)
}

// wheelsOfOtherRows have too few or too many rows.
func wheelsOfOtherRows(l timeline) []impl.Wheel {
	var bad []impl.Wheel
	for _, many := range []int{0, 1, rowCount - 1, rowCount + 1, 2 * rowCount} {
		near, far := l.wheel(), l.wheel()
		near.Near = rowsOf(near.Near, many)
		far.Far = rowsOf(far.Far, many)
		bad = append(bad, near, far)
	}
	moved := l.wheel()
	moved.Near, moved.Far = rowsOf(moved.Near, rowCount-1), rowsOf(moved.Far, rowCount+1)
	return append(bad, moved)
}

func rowsOf(rows [][]impl.Timer, many int) [][]impl.Timer {
	return append(slices.Clone(rows), make([][]impl.Timer, rowCount)...)[:many]
}

// wheelsSpoilt have one timer more that they may not have, in the row where it would stand.
func wheelsSpoilt(l timeline) []impl.Wheel {
	var bad []impl.Wheel
	add := func(timer impl.Timer) {
		at := max(timer.At, 0)
		if w := l.wheel(); at/rowCount == l.now/rowCount {
			w.Near[at%rowCount] = append(w.Near[at%rowCount], timer)
			bad = append(bad, w)
		} else {
			w.Far[at/rowCount%rowCount] = append(w.Far[at/rowCount%rowCount], timer)
			bad = append(bad, w)
		}
	}
	for _, id := range badIds {
		add(timerOf(id, l.now+1))
		add(timerOf(id, l.now+40))
	}
	for _, at := range append([]int{0, l.now - 8, l.now - 1, l.now, l.now + aheadMost + 1, l.now + aheadMost + 8, l.now + 128}, farOff...) {
		add(timerOf(99, at))
	}
	return bad
}

// wheelsUnordered have rows that are not by rising Id, an Id twice, or a timer too many.
func wheelsUnordered() []impl.Wheel {
	twice := func(near, far []impl.Timer, other []impl.Timer) impl.Wheel {
		w := timelineOf(8).wheel()
		w.Near[3], w.Far[2], w.Far[3] = near, far, other
		return w
	}
	one, two, many := timerOf(1, 11), timerOf(2, 11), []impl.Timer(nil)
	for id := 1; id <= timerMost+1; id++ {
		many = append(many, timerOf(id, 11))
	}
	late := []impl.Timer{timerOf(5, 16), timerOf(3, 17), timerOf(9, 18)}
	return []impl.Wheel{
		twice([]impl.Timer{two, one}, nil, nil),
		twice([]impl.Timer{one, one}, nil, nil),
		twice([]impl.Timer{one, two, one}, nil, nil),
		twice([]impl.Timer{one}, []impl.Timer{timerOf(1, 16)}, nil),
		twice(nil, late, nil),
		twice(nil, late[1:2], []impl.Timer{timerOf(3, 24)}),
		twice(nil, []impl.Timer{timerOf(3, 16), timerOf(3, 17)}, nil),
		twice(nil, []impl.Timer{timerOf(3, 16), timerOf(3, 16)}, nil),
		twice(many, nil, nil),
		twice(many[:timerMost], []impl.Timer{timerOf(99, 16)}, nil),
		twice(many[:timerMost-1], []impl.Timer{timerOf(98, 16)}, []impl.Timer{timerOf(99, 24)}),
		twice(slices.Repeat([]impl.Timer{one}, 100), nil, nil),
	}
}
