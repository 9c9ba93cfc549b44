package tests

import (
	"testing"

	"loop.example/g00620/impl"
)

// sumOf adds up by single steps what the document says a slot's sum is.
func sumOf(s impl.Slot) int {
	sum := 12345
	add := func(n, times int) {
		for range times {
			sum = (sum + n) % 65521
		}
	}
	add(s.Epoch, 31)
	add(s.A, 7)
	add(s.B, 3)
	return sum
}

// putSlot writes a slot into a line, whether it belongs there or not.
func (p *plain) putSlot(line int, s impl.Slot) *plain {
	p.store(line*impl.LineWords, s.Epoch, s.A, s.B, sumOf(s))
	return p
}

func (p *plain) slots() []impl.Slot {
	var l []impl.Slot
	for line := range 2 {
		words := p.cache[line*impl.LineWords : (line+1)*impl.LineWords]
		s := impl.Slot{Epoch: words[0], A: words[1], B: words[2]}
		if s.Epoch >= 1 && s.Epoch <= 1000 && s.Epoch&1 == line && words[3] == sumOf(s) {
			l = append(l, s)
		}
	}
	return l
}

// plainOf takes a good memory over into a plain one.
func plainOf(m impl.Memory) *plain {
	p := &plain{}
	for at := range p.cache {
		p.sure[at] = m.Sure[at/impl.LineWords].Words[at%impl.LineWords]
		p.cache[at] = m.Cache[at/impl.LineWords].Words[at%impl.LineWords]
	}
	copy(p.dirty[:], m.Dirty)
	return p
}

// goodSlots are slots at the edges of what is allowed, and some between.
func goodSlots() []impl.Slot {
	var l []impl.Slot
	for _, epoch := range []int{1, 2, 3, 500, 999, 1000} {
		for _, a := range []int{0, 1, 40000, impl.MaxWord} {
			for _, b := range []int{0, 1, 40000, impl.MaxWord} {
				l = append(l, impl.Slot{Epoch: epoch, A: a, B: b})
			}
		}
	}
	return l
}

// badSlots are slots that are not as said, each for one reason.
func badSlots() []impl.Slot {
	l := []impl.Slot{{}, {Epoch: -1, A: -1, B: -1}, {Epoch: 1001, A: impl.MaxWord + 1, B: impl.MaxWord + 1}}
	for _, epoch := range badEpochs {
		l = append(l, impl.Slot{Epoch: epoch, A: 2, B: 3})
	}
	for _, word := range badWords {
		for _, epoch := range []int{1, 2, 1000} {
			l = append(l, impl.Slot{Epoch: epoch, A: word, B: 3}, impl.Slot{Epoch: epoch, A: 2, B: word})
		}
	}
	return l
}

var badEpochs = append([]int{-1000, -2, -1, 0, 1001, 1002, 65535, 65536}, farOff...)

// wantNewest fails where the newest slot of m is not s.
func wantNewest(t *testing.T, s impl.Slot, m impl.Memory) {
	t.Helper()
	if got, ok := impl.NewestSlot(m); !ok || got != s {
		t.Fatalf("the newest slot is %v, %v, not %v, in %s", got, ok, s, tell(m.Cache[:2]))
	}
}

func committed(t *testing.T, m impl.Memory, s impl.Slot) impl.Memory {
	t.Helper()
	c, ok := impl.CommitSlot(m, s)
	if !ok {
		t.Fatal("CommitSlot refused", s)
	}
	return c
}

func written(t *testing.T, m impl.Memory, s impl.Slot) impl.Memory {
	t.Helper()
	w, ok := impl.WriteSlot(m, s)
	if !ok {
		t.Fatal("WriteSlot refused", s)
	}
	return w
}

func failed(t *testing.T, m impl.Memory, kept ...int) impl.Memory {
	t.Helper()
	f, ok := impl.FailPower(m, kept)
	if !ok {
		t.Fatal("FailPower refused", kept)
	}
	return f
}

func nextOf(t *testing.T, s impl.Slot, a, b int) impl.Slot {
	t.Helper()
	n, ok := impl.NextSlot(s, a, b)
	if !ok {
		t.Fatal("NextSlot refused", s, a, b)
	}
	return n
}
