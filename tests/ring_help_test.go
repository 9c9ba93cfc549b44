package tests

import (
	"slices"
	"testing"

	"loop.example/g00620/impl"
)

// Told by number and not by the program's own constants.
const (
	cellCount    = 4
	countValues  = 8
	ringStepMost = 60
)

var takeStep = impl.RingStep{Kind: 2}

func putStep(word int) impl.RingStep {
	return impl.RingStep{Kind: 1, Word: word}
}

// tape is a ring rolled out: all words that were put, one behind the other from at on, and how many of them were taken.
type tape struct {
	at    int
	words []int
	taken int
}

func (p tape) waiting() []int {
	return p.words[p.taken:]
}

// ring has of the words that fall on one cell the last.
func (p tape) ring() impl.Ring {
	r := impl.Ring{Cells: make([]int, cellCount), Head: (p.at + p.taken) % countValues, Tail: (p.at + len(p.words)) % countValues}
	for k, word := range p.words {
		r.Cells[(p.at+k)%cellCount] = word
	}
	return r
}

// stepped is the tape behind a step, and the answer to it; -1 and the tape as it is where the step may not be done.
func (p tape) stepped(s impl.RingStep) (tape, int) {
	many := len(p.waiting())
	switch {
	case s.Kind == 1 && s.Word >= 0 && s.Word <= wordMost && many < cellCount:
		p.words = append(slices.Clone(p.words), s.Word)
		return p, 0
	case s == takeStep && many > 0:
		p.taken++
		return p, p.words[p.taken-1]
	}
	return p, -1
}

// tapeBehind is the tape behind steps from at on, and the answers to them.
func tapeBehind(at int, l []impl.RingStep) (tape, []int) {
	p := tape{at: at}
	var answers []int
	for _, s := range l {
		after, answer := p.stepped(s)
		p, answers = after, append(answers, answer)
	}
	return p, answers
}

// goodTapes are of rings with all counts, empty ones and full ones, with cells that were never written, that wait and that were taken, and with words at both ends of what a word may be.
func goodTapes() []tape {
	var l []tape
	next := numbersFrom(12)
	for at := range countValues {
		for many := range cellCount + 1 {
			l = append(l, tape{at, numberedWords(many), 0}, tape{at, numberedWords(2 * cellCount), 2*cellCount - many})
			l = append(l, tape{at, slices.Repeat([]int{wordMost}, 5+many), 5}, tape{at, make([]int, many), 0})
			l = append(l, tape{at, mixedWords(3+many, next), 3}, tape{at, mixedWords(20+many, next), 20})
		}
	}
	return l
}

// numberedWords are all unlike, and none is 0.
func numberedWords(many int) []int {
	words := make([]int, many)
	for k := range words {
		words[k] = 11 * (k + 1)
	}
	return words
}

func mixedWords(many int, next func(int) int) []int {
	words := make([]int, many)
	for k := range words {
		words[k] = []int{0, 1, 1 + next(wordMost-1), next(wordMost), wordMost}[next(5)]
	}
	return words
}

// mixedRingSteps are many steps of which so many of ten put, and most others take; each word that is put is another.
func mixedRingSteps(many, puts int, next func(int) int) []impl.RingStep {
	var l []impl.RingStep
	bad := badRingSteps()
	for k := range many {
		switch n := next(11); {
		case n < puts:
			l = append(l, putStep(100*k+next(100)))
		case n < 10:
			l = append(l, takeStep)
		default:
			l = append(l, bad[next(len(bad))])
		}
	}
	return l
}

// eachRingList calls f with each list of so many steps that put, take, or are each of some more; each word that is put is another.
func eachRingList(many int, more []impl.RingStep, f func(l []impl.RingStep)) {
	l := make([]impl.RingStep, many)
	var from func(k int)
	from = func(k int) {
		if k == many {
			f(l)
			return
		}
		for _, s := range append([]impl.RingStep{putStep(7 * (k + 1)), takeStep}, more...) {
			l[k] = s
			from(k + 1)
		}
	}
	from(0)
}

var (
	badRingCounts = append([]int{-8, -4, -1, countValues, countValues + 1, 2 * countValues, 100}, farOff...)
	badRingWords  = append([]int{-65536, -77, -1, wordMost + 1, 65537, 1 << 32}, farOff...)
)

// badRingSteps may not be done in any ring.
func badRingSteps() []impl.RingStep {
	l := []impl.RingStep{{}}
	for _, kind := range append([]int{-2, -1, 0, 3, 4, 12}, farOff...) {
		l = append(l, impl.RingStep{Kind: kind}, impl.RingStep{Kind: kind, Word: 5})
	}
	for _, word := range badRingWords {
		l = append(l, putStep(word), impl.RingStep{Kind: 2, Word: word})
	}
	for _, word := range []int{1, 2, 5, wordMost} {
		l = append(l, impl.RingStep{Kind: 2, Word: word})
	}
	return l
}

// badRings are rings that are not good, each for one reason.
func badRings() []impl.Ring {
	bad := []impl.Ring{{}, {Head: 3, Tail: 5}}
	for k, p := range goodTapes() {
		r := p.ring()
		for _, many := range []int{0, 1, cellCount - 1, cellCount + 1, 2 * cellCount} {
			bad = append(bad, impl.Ring{Cells: cellsOf(r.Cells, many), Head: r.Head, Tail: r.Tail})
		}
		cells := slices.Clone(r.Cells)
		cells[k%cellCount] = badRingWords[k%len(badRingWords)]
		count := badRingCounts[k%len(badRingCounts)]
		bad = append(bad, impl.Ring{Cells: cells, Head: r.Head, Tail: r.Tail},
			impl.Ring{Cells: r.Cells, Head: count, Tail: r.Tail},
			impl.Ring{Cells: r.Cells, Head: r.Head, Tail: count},
			impl.Ring{Cells: r.Cells, Head: count, Tail: count},
			impl.Ring{Cells: r.Cells, Head: r.Head + countValues, Tail: r.Tail + countValues},
			impl.Ring{Cells: r.Cells, Head: r.Head - countValues, Tail: r.Tail - countValues})
		for more := cellCount + 1; more < countValues; more++ {
			bad = append(bad, impl.Ring{Cells: r.Cells, Head: r.Head, Tail: (r.Head + more) % countValues})
		}
	}
	return bad
}

func cellsOf(cells []int, many int) []int {
	return append(slices.Clone(cells), make([]int, 2*cellCount)...)[:many]
}

// waitingWords are WaitingIn of what is good.
func waitingWords(t *testing.T, r impl.Ring) []int {
	t.Helper()
	words, ok := impl.WaitingIn(r)
	if !ok || !impl.GoodRing(r) {
		t.Fatalf("%v is not good", r)
	}
	if many, ok := impl.CountIn(r); !ok || many != len(words) {
		t.Fatalf("%v: %d are in it (%v), and %v wait", r, many, ok, words)
	}
	return words
}

// playedRing is PlayRing of what is good.
func playedRing(t *testing.T, at int, l []impl.RingStep) (impl.Ring, []int) {
	t.Helper()
	r, answers, ok := impl.PlayRing(at, l)
	if !ok || len(answers) != len(l) {
		t.Fatalf("from %d on %v: answers %v, %v", at, l, answers, ok)
	}
	return r, answers
}

// newRing is NewRing of what is good.
func newRing(t *testing.T, at int) impl.Ring {
	t.Helper()
	r, ok := impl.NewRing(at)
	if !ok || len(waitingWords(t, r)) != 0 || r.Head != at || r.Tail != at {
		t.Fatalf("at %d: %v, %v", at, r, ok)
	}
	return r
}

// stepRing is StepRing of what may be done.
func stepRing(t *testing.T, r impl.Ring, s impl.RingStep) (impl.Ring, int) {
	t.Helper()
	after, answer, ok := impl.StepRing(r, s)
	if !ok {
		t.Fatalf("%v: %v is not done", r, s)
	}
	return after, answer
}
