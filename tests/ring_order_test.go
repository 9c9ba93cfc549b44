package tests

import (
	"slices"
	"testing"

	"loop.example/g00620/impl"
)

// Promise 12: what is taken is what was put, in order, as of a list, wherever the counts began.

// wantQueued fails where a ring that began at any count is not as a list, in its answers or in what waits then.
func wantQueued(t *testing.T, l []impl.RingStep) {
	t.Helper()
	answers, left, ok := impl.PlayQueue(l)
	if !ok {
		t.Fatalf("%v: no queue", l)
	}
	for at := range countValues {
		r, got := playedRing(t, at, l)
		if words := waitingWords(t, r); !slices.Equal(got, answers) || !slices.Equal(words, left) {
			t.Fatalf("from %d on %v: %v, and %v wait; as a list %v, and %v", at, l, got, words, answers, left)
		}
	}
}

func TestRingIsAsAList(t *testing.T) {
	for many := range 12 {
		eachRingList(many, nil, func(l []impl.RingStep) { wantQueued(t, l) })
	}
	for many := range 7 {
		eachRingList(many, []impl.RingStep{putStep(0), putStep(wordMost + 1)}, func(l []impl.RingStep) { wantQueued(t, l) })
	}
}

func TestLongRingIsAsAList(t *testing.T) {
	next := numbersFrom(120)
	for many := range ringStepMost + 1 {
		for puts := range 11 {
			wantQueued(t, mixedRingSteps(many, puts, next))
		}
	}
}

// What is taken and what waits then is what was put, told by the answers alone; a put fails only where RingRoom wait, a take only where nothing waits.
func TestTakenIsWhatWasPut(t *testing.T) {
	next := numbersFrom(121)
	for k := range 2000 {
		at, l := k%countValues, mixedRingSteps(ringStepMost-k%5, 2+k%7, next)
		var put, taken []int
		r, answers := playedRing(t, at, l)
		for n, s := range l {
			many := len(put) - len(taken)
			isPut := s.Kind == 1 && s.Word >= 0 && s.Word <= wordMost
			switch done := answers[n] != -1; {
			case done != (isPut && many < cellCount || s == takeStep && many > 0):
				t.Fatalf("from %d on %v: %d waited, and step %d answers %d", at, l, many, n, answers[n])
			case done && isPut:
				put = append(put, s.Word)
			case done:
				taken = append(taken, answers[n])
			}
		}
		if words := append(taken, waitingWords(t, r)...); !slices.Equal(words, put) {
			t.Fatalf("from %d on %v: put were %v, and taken or waiting are %v", at, l, put, words)
		}
	}
}

// wantOneSide fails where a step changes what is of the other side: a put Head or a cell that is not at Tail, a take Tail or a cell.
func wantOneSide(t *testing.T, r impl.Ring, s impl.RingStep, after impl.Ring) {
	t.Helper()
	said := impl.Ring{Cells: slices.Clone(r.Cells), Head: r.Head, Tail: r.Tail}
	if s.Kind == 1 {
		said.Cells[r.Tail%cellCount] = s.Word
		said.Tail = (r.Tail + 1) % countValues
	} else {
		said.Head = (r.Head + 1) % countValues
	}
	if after.Head != said.Head || after.Tail != said.Tail || !slices.Equal(after.Cells, said.Cells) {
		t.Fatalf("%v behind %v is %v, not %v", r, s, after, said)
	}
}

// A ring that is played is what it is step by step, each step of one side alone.
func TestRingStepByStep(t *testing.T) {
	next := numbersFrom(122)
	for k := range 500 {
		at, l := k%countValues, mixedRingSteps(ringStepMost, 1+k%9, next)
		r := newRing(t, at)
		for n, s := range l {
			played, answers := playedRing(t, at, l[:n+1])
			after, answer, ok := impl.StepRing(r, s)
			if !ok {
				after, answer = r, -1
			} else {
				wantOneSide(t, r, s, after)
			}
			if waitingWords(t, after); answers[n] != answer || tell(after) != tell(played) {
				t.Fatalf("%v: %v leads to %v and %d, and played to %v and %d", r, s, after, answer, played, answers[n])
			}
			r = after
		}
	}
}

// A full ring is unlike an empty one, though both have Head and Tail at one cell.
func TestFullAndEmptyAreUnlike(t *testing.T) {
	for at := range countValues {
		empty := newRing(t, at)
		for round := range 3 {
			if _, _, ok := impl.StepRing(empty, takeStep); ok || len(waitingWords(t, empty)) != 0 {
				t.Fatalf("%v is not empty", empty)
			}
			full := empty
			for k := range cellCount {
				full, _ = stepRing(t, full, putStep(100*round+k))
			}
			if _, _, ok := impl.StepRing(full, putStep(9)); ok || len(waitingWords(t, full)) != cellCount {
				t.Fatalf("%v is not full", full)
			}
			if full.Head != empty.Head || full.Tail == empty.Tail || full.Tail%cellCount != full.Head%cellCount {
				t.Fatalf("%v is full, and was %v", full, empty)
			}
			empty = full
			for k := range cellCount {
				var word int
				if empty, word = stepRing(t, empty, takeStep); word != 100*round+k {
					t.Fatalf("from %d on: took %d, not %d", at, word, 100*round+k)
				}
			}
			if empty.Tail != full.Tail || !slices.Equal(empty.Cells, full.Cells) {
				t.Fatalf("%v: what takes wrote: %v", full, empty)
			}
		}
	}
}

// However many wait, the counts go round as often as one likes.
func TestCountsGoRound(t *testing.T) {
	for at := range countValues {
		for many := range cellCount {
			r, put, taken := newRing(t, at), 0, 0
			for range many {
				r, _ = stepRing(t, r, putStep(put))
				put++
			}
			for range 5 * countValues {
				r, _ = stepRing(t, r, putStep(put))
				put++
				var word int
				if r, word = stepRing(t, r, takeStep); word != taken {
					t.Fatalf("from %d on, %d waiting: took %d, not %d", at, many, word, taken)
				}
				taken++
			}
			if r.Head != (at+taken)%countValues || r.Tail != (at+put)%countValues {
				t.Fatalf("from %d on, behind %d puts and %d takes: %v", at, put, taken, r)
			}
		}
	}
}
