package tests

import (
	"testing"

	"loop.example/g00620/impl"
)

const lastPlace = impl.Lines*impl.LineWords - 1

// plain is what a memory should be, kept apart from the program: its words by place.
type plain struct {
	sure  [impl.Lines * impl.LineWords]int
	cache [impl.Lines * impl.LineWords]int
	dirty [impl.Lines]bool
}

func (p *plain) store(at int, words ...int) {
	for k, w := range words {
		p.cache[at+k] = w
		p.dirty[(at+k)/impl.LineWords] = true
	}
}

func (p *plain) flush(line int) {
	for at := line * impl.LineWords; at < (line+1)*impl.LineWords; at++ {
		p.sure[at] = p.cache[at]
	}
	p.dirty[line] = false
}

func (p *plain) flushAll() {
	for line := range impl.Lines {
		p.flush(line)
	}
}

// fail goes line by line: a dirty line that was kept is what it was last, any other what was sure.
func (p *plain) fail(kept []int) {
	was := map[int]int{}
	for _, line := range kept {
		was[line] = 1
	}
	for line := range impl.Lines {
		for at := line * impl.LineWords; at < (line+1)*impl.LineWords; at++ {
			if p.dirty[line] && was[line] == 1 {
				p.sure[at] = p.cache[at]
			}
			p.cache[at] = p.sure[at]
		}
		p.dirty[line] = false
	}
}

func (p *plain) memory() impl.Memory {
	return impl.Memory{Sure: linesOf(p.sure), Cache: linesOf(p.cache), Dirty: append([]bool(nil), p.dirty[:]...)}
}

func linesOf(words [impl.Lines * impl.LineWords]int) []impl.Line {
	var l []impl.Line
	for at := 0; at < len(words); at += impl.LineWords {
		l = append(l, impl.Line{Words: append([]int(nil), words[at:at+impl.LineWords]...)})
	}
	return l
}

// mixed has lines of all kinds: never stored to, flushed, dirty in part and as a
// whole, flushed and stored to again, and dirty though alike.
func mixed() *plain {
	p := &plain{}
	p.store(4, 11, 12, 13, 14)
	p.flush(1)
	p.store(8, 21, 22, 23, 24)
	p.store(12, 31, 32, 33, 34)
	p.flush(3)
	p.store(13, 35)
	p.store(15, 36)
	p.store(17, impl.MaxWord)
	p.store(20, 0)
	p.store(lastPlace, 91)
	p.flush(11)
	p.store(lastPlace-3, 92, 0, 93, 94)
	return p
}

// goodMemories are good ones, each made anew.
func goodMemories() []impl.Memory {
	full := &plain{}
	for at := range full.cache {
		full.store(at, impl.MaxWord)
	}
	dirty := *full
	full.flushAll()
	return []impl.Memory{impl.NewMemory(), mixed().memory(), full.memory(), dirty.memory(), oneListForAll()}
}

// oneListForAll is a good memory whose lists are all the same memory.
func oneListForAll() impl.Memory {
	words := []int{1, 2, 3, 4}
	l := make([]impl.Line, impl.Lines)
	for k := range l {
		l[k].Words = words
	}
	return impl.Memory{Sure: l, Cache: l, Dirty: make([]bool, impl.Lines)}
}

// badMemories are ones that are not good, each for one reason.
func badMemories() []impl.Memory {
	bad := []impl.Memory{{}}
	spoilt := func(f func(m *impl.Memory)) {
		m := mixed().memory()
		f(&m)
		bad = append(bad, m)
	}
	spoilt(func(m *impl.Memory) { m.Sure = nil })
	spoilt(func(m *impl.Memory) { m.Cache = nil })
	spoilt(func(m *impl.Memory) { m.Dirty = nil })
	spoilt(func(m *impl.Memory) { m.Sure = m.Sure[:impl.Lines-1] })
	spoilt(func(m *impl.Memory) { m.Cache = m.Cache[:impl.Lines-1] })
	spoilt(func(m *impl.Memory) { m.Dirty = m.Dirty[:impl.Lines-1] })
	spoilt(func(m *impl.Memory) { m.Sure = append(m.Sure, impl.Line{Words: make([]int, impl.LineWords)}) })
	spoilt(func(m *impl.Memory) { m.Cache = append(m.Cache, impl.Line{Words: make([]int, impl.LineWords)}) })
	spoilt(func(m *impl.Memory) { m.Dirty = append(m.Dirty, false) })
	for _, line := range []int{0, 2, 5, impl.Lines - 1} {
		spoilt(func(m *impl.Memory) { m.Sure[line].Words = nil })
		spoilt(func(m *impl.Memory) { m.Cache[line].Words = nil })
		spoilt(func(m *impl.Memory) { m.Sure[line].Words = m.Sure[line].Words[:impl.LineWords-1] })
		spoilt(func(m *impl.Memory) { m.Cache[line].Words = m.Cache[line].Words[:impl.LineWords-1] })
		spoilt(func(m *impl.Memory) { m.Sure[line].Words = append(m.Sure[line].Words, 0) })
		spoilt(func(m *impl.Memory) { m.Cache[line].Words = append(m.Cache[line].Words, 0) })
		for _, word := range append([]int{-1, impl.MaxWord + 1}, farOff...) {
			for k := range impl.LineWords {
				spoilt(func(m *impl.Memory) { m.Sure[line].Words[k] = word })
				spoilt(func(m *impl.Memory) { m.Cache[line].Words[k] = word })
				spoilt(func(m *impl.Memory) { m.Sure[line].Words[k], m.Cache[line].Words[k] = word, word })
			}
		}
	}
	for _, line := range []int{0, 1, 6, 10} {
		for k := range impl.LineWords {
			spoilt(func(m *impl.Memory) { m.Cache[line].Words[k] = 7 })
			spoilt(func(m *impl.Memory) { m.Sure[line].Words[k] = 7 })
		}
	}
	spoilt(func(m *impl.Memory) { m.Dirty[2] = false })
	spoilt(func(m *impl.Memory) { m.Dirty[impl.Lines-1] = false })
	return bad
}

// wantMemory fails where f does not answer the memory p is, and true.
func wantMemory(t *testing.T, p *plain, f any, args ...any) {
	t.Helper()
	want(t, []any{p.memory(), true}, f, args...)
}
