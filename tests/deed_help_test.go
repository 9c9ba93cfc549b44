package tests

import (
	"testing"

	"loop.example/g00620/impl"
)

// Of the log: its line, and the lines of its entries, told by number and not by the program's own constants.
const (
	countPlace = 24
	countLine  = 6
	firstEntry = 28
)

// changes makes pairs of a place and a word out of numbers side by side.
func changes(numbers ...int) []impl.Pair {
	var l []impl.Pair
	for k := 0; k < len(numbers); k += 2 {
		l = append(l, impl.Pair{At: numbers[k], Word: numbers[k+1]})
	}
	return l
}

func (p *plain) copied() *plain {
	c := *p
	return &c
}

// played keeps a memory as it was ahead of a change and behind each.
type played struct {
	now   *plain
	steps []*plain
}

func play(p *plain) *played {
	return &played{now: p.copied(), steps: []*plain{p.copied()}}
}

func (y *played) store(at int, words ...int) {
	y.now.store(at, words...)
	y.steps = append(y.steps, y.now.copied())
}

func (y *played) flush(line int) {
	y.now.flush(line)
	y.steps = append(y.steps, y.now.copied())
}

// deed tells the memories of a deed, as the document lists its steps.
func (p *plain) deed(l []impl.Pair) []*plain {
	y := play(p)
	for k, c := range l {
		y.store(firstEntry+4*k, c.At, p.cache[c.At])
		y.flush(7 + k)
	}
	y.store(countPlace, len(l))
	y.flush(countLine)
	for _, c := range l {
		y.store(c.At, c.Word)
	}
	for _, c := range l {
		y.flush(c.At / 4)
	}
	y.store(countPlace, 0)
	y.flush(countLine)
	return y.steps
}

// undoing tells the memories of a return, as the document lists its steps.
func (p *plain) undoing() []*plain {
	y := play(p)
	many := p.cache[countPlace]
	for k := range many {
		y.store(p.cache[firstEntry+4*k], p.cache[firstEntry+4*k+1])
	}
	for k := range many {
		y.flush(p.cache[firstEntry+4*k] / 4)
	}
	y.store(countPlace, 0)
	y.flush(countLine)
	return y.steps
}

func (p *plain) undone() *plain {
	steps := p.undoing()
	return steps[len(steps)-1]
}

func (p *plain) data() []int {
	return append([]int(nil), p.cache[8:24]...)
}

func memoriesOf(l []*plain) []impl.Memory {
	var memories []impl.Memory
	for _, p := range l {
		memories = append(memories, p.memory())
	}
	return memories
}

// counted has data 1..16 and a log that counts so many entries, these pairs being what was; all sure.
func counted(many int, l ...impl.Pair) *plain {
	p := oneToSixteen()
	for k, c := range l {
		p.store(firstEntry+4*k, c.At, c.Word)
	}
	p.store(countPlace, many)
	p.flushAll()
	return p
}

// oneToSixteen has data 1..16, all sure.
func oneToSixteen() *plain {
	p := &plain{}
	for k := range 16 {
		p.store(8+k, k+1)
	}
	p.flushAll()
	return p
}

// brimful has MaxWord in each word but the count, all sure.
func brimful() *plain {
	p := &plain{}
	for at := range p.cache {
		p.store(at, impl.MaxWord)
	}
	p.store(countPlace, 0)
	p.flushAll()
	return p
}

// settled are memories where nothing is dirty and nothing counts in the log.
func settled() []*plain {
	return []*plain{{}, oneToSixteen(), brimful(), counted(0, changes(8, 77, 9, 78, 23, 79)...)}
}

// unsettled are memories where nothing counts in the log, with dirty lines; in the last one what is sure of the count is none.
func unsettled() []*plain {
	all := brimful()
	for line := range impl.Lines {
		all.store(4*line+1, 5)
	}
	hidden := counted(9)
	hidden.store(countPlace, 0)
	return []*plain{mixed(), all, hidden}
}

// pending are memories with entries that count: one, two and MaxPairs; the edges of places and words; dirty ones; entries of one place.
func pending() []*plain {
	half := oneToSixteen().deed(changes(8, 50, 12, 51, 23, 52))
	dirty := mixed()
	dirty.store(firstEntry, 10, 500)
	dirty.store(countPlace, 1)
	return []*plain{
		counted(1, changes(8, 0)...), counted(1, changes(23, impl.MaxWord)...), counted(2, changes(8, 100, 9, 101)...),
		counted(impl.MaxPairs, changes(8, 100, 15, 101, 23, 102)...), counted(impl.MaxPairs, changes(20, 3, 12, 2, 8, 1)...),
		counted(2, changes(10, 100, 10, 101)...), counted(1, changes(9, 100, 7, 101, 24, 102)...), dirty,
		half[7], half[8], half[9], half[12], half[14],
	}
}

// badLogs are good memories whose count is none, or whose entries tell a place that is none.
func badLogs() (counts, places []*plain) {
	for _, many := range []int{impl.MaxPairs + 1, 5, 100, impl.MaxWord} {
		// Words behind the last entry look like entries, too: the count alone is at fault.
		counts = append(counts, counted(many, changes(8, 1, 9, 2, 10, 3, 11, 4, 12, 5)...))
		dirty := oneToSixteen()
		dirty.store(countPlace, many)
		counts = append(counts, dirty)
	}
	for _, at := range []int{0, 1, 7, 24, 25, 28, 47, 48, impl.MaxWord} {
		places = append(places, counted(1, changes(at, 1)...), counted(2, changes(8, 1, at, 2)...),
			counted(impl.MaxPairs, changes(at, 1, 9, 2, 10, 3)...), counted(impl.MaxPairs, changes(8, 1, 9, 2, at, 3)...))
	}
	return counts, places
}

// goodDeeds are pairs of each number, at the edges and between, in one line and in several.
func goodDeeds() [][]impl.Pair {
	most := impl.MaxWord
	return [][]impl.Pair{
		changes(8, 5), changes(23, 0), changes(8, 1), changes(15, most), changes(8, most, 23, most), changes(11, 5, 12, 6),
		changes(8, 5, 9, 6), changes(22, 0, 23, most), changes(16, 9, 20, 20), changes(8, 5, 9, 6, 10, 7), changes(21, 0, 22, 0, 23, 0),
		changes(8, 50, 15, 51, 23, 52), changes(8, 50, 11, 51, 12, 52), changes(9, 50, 20, 51, 23, 52), changes(8, 1, 14, 7, 23, 16),
	}
}

// badDeeds are lists of pairs that are not good, each for one reason.
func badDeeds() [][]impl.Pair {
	l := [][]impl.Pair{
		nil, {}, changes(8, 1, 9, 2, 10, 3, 11, 4), make([]impl.Pair, 100), changes(8, 1, 8, 1), changes(9, 1, 8, 1),
		changes(8, 1, 9, 2, 9, 3), changes(8, 1, 10, 2, 9, 3), changes(9, 1, 8, 2, 10, 3), changes(23, 1, 16, 2, 8, 3), changes(8, 1, 9, 2, 8, 3),
	}
	for _, at := range append([]int{-8, -1, 0, 7, 24, 25, 28, 47, 48, 1000}, farOff...) {
		l = append(l, changes(at, 1), changes(min(at, 8), 1, max(at, 8), 2), changes(min(at, 8), 1, 10, 2, max(at, 12), 3))
	}
	for _, word := range badWords {
		l = append(l, changes(8, word), changes(8, word, 9, 1), changes(8, 1, 9, word), changes(8, 1, 9, 2, 23, word), changes(8, 1, 9, word, 23, 3))
	}
	return l
}

func dataOf(t *testing.T, m impl.Memory) []int {
	t.Helper()
	words, ok := impl.DataOf(m)
	if !ok {
		t.Fatal("DataOf refused", tell(m))
	}
	return words
}

func recovered(t *testing.T, m impl.Memory) impl.Memory {
	t.Helper()
	r, ok := impl.RecoverDeed(m)
	if !ok {
		t.Fatal("RecoverDeed refused", tell(m))
	}
	return r
}

// wantSettled fails where something still counts in m's log.
func wantSettled(t *testing.T, m impl.Memory) {
	t.Helper()
	if many, ok := impl.PendingIn(m); !ok || many != 0 {
		t.Fatalf("PendingIn: %d, %v, in %s", many, ok, tell(m))
	}
}
