package impl

const Lines = 12
const LineWords = 4
const MaxWord = 65535

type Line struct {
	Words []int
}

type Memory struct {
	Sure  []Line
	Cache []Line
	Dirty []bool
}

// maxAtOnce is how many words StoreAll and LoadAll take in one call.
const maxAtOnce = 8

// heldLine is a line as a value: two of them are held against each other as a whole.
type heldLine [LineWords]int

// heldMemory is a good memory as a value: a change in it reaches no list that
// was handed in, and what it gives out shares nothing with it.
type heldMemory struct {
	sure  [Lines]heldLine
	cache [Lines]heldLine
	dirty [Lines]bool
}

func NewMemory() Memory {
	var h heldMemory
	return h.giveOut()
}

func GoodMemory(m Memory) bool {
	_, ok := holdMemory(m)
	return ok
}

func Load(m Memory, at int) (int, bool) {
	h, ok := holdMemory(m)
	if !ok || !isPlace(at) {
		return 0, false
	}
	return h.wordAt(at), true
}

func Store(m Memory, at int, word int) (Memory, bool) {
	h, ok := holdMemory(m)
	if !ok || !isPlace(at) || !isWord(word) {
		return Memory{}, false
	}
	h.storeWord(at, word)
	return h.giveOut(), true
}

func FlushLine(m Memory, line int) (Memory, bool) {
	h, ok := holdMemory(m)
	if !ok || !isLine(line) {
		return Memory{}, false
	}
	h.flushLine(line)
	return h.giveOut(), true
}

func FlushAll(m Memory) (Memory, bool) {
	h, ok := holdMemory(m)
	if !ok {
		return Memory{}, false
	}
	h.sure = h.cache
	clear(h.dirty[:])
	return h.giveOut(), true
}

func FailPower(m Memory, kept []int) (Memory, bool) {
	h, ok := holdMemory(m)
	if !ok || !risingLines(kept) {
		return Memory{}, false
	}
	// A kept line that is not dirty is alike in both places, so a flush leaves it as it is.
	for _, line := range kept {
		h.flushLine(line)
	}
	h.cache = h.sure
	clear(h.dirty[:])
	return h.giveOut(), true
}

func StoreAll(m Memory, at int, words []int) (Memory, bool) {
	h, ok := holdMemory(m)
	if !ok || !isStretch(at, len(words)) {
		return Memory{}, false
	}
	for k, word := range words {
		if !isWord(word) {
			return Memory{}, false
		}
		h.storeWord(at+k, word)
	}
	return h.giveOut(), true
}

func LoadAll(m Memory, at int, many int) ([]int, bool) {
	h, ok := holdMemory(m)
	if !ok || !isStretch(at, many) {
		return nil, false
	}
	words := make([]int, many)
	for k := range words {
		words[k] = h.wordAt(at + k)
	}
	return words, true
}

func isWord(n int) bool {
	return n >= 0 && n <= MaxWord
}

func isPlace(at int) bool {
	return at >= 0 && at < Lines*LineWords
}

func isLine(line int) bool {
	return line >= 0 && line < Lines
}

// isStretch says whether so many words may be asked for from at on. No words
// still begin at a place. The place is asked first, so that no sum wraps round.
func isStretch(at int, many int) bool {
	return isPlace(at) && many >= 0 && many <= maxAtOnce && at+many <= Lines*LineWords
}

func risingLines(l []int) bool {
	for k, line := range l {
		if !isLine(line) || k > 0 && line <= l[k-1] {
			return false
		}
	}
	return true
}

// holdMemory takes a memory in as a value; false where it is not good.
func holdMemory(m Memory) (heldMemory, bool) {
	if len(m.Sure) != Lines || len(m.Cache) != Lines || len(m.Dirty) != Lines {
		return heldMemory{}, false
	}
	var h heldMemory
	copy(h.dirty[:], m.Dirty)
	for k := range Lines {
		sure, ok := holdLine(m.Sure[k])
		if !ok {
			return heldMemory{}, false
		}
		cache, ok := holdLine(m.Cache[k])
		if !ok {
			return heldMemory{}, false
		}
		if !h.dirty[k] && sure != cache {
			return heldMemory{}, false
		}
		h.sure[k], h.cache[k] = sure, cache
	}
	return h, true
}

// holdLine takes a line in as a value; false where it has not LineWords words.
func holdLine(l Line) (heldLine, bool) {
	if len(l.Words) != LineWords {
		return heldLine{}, false
	}
	var h heldLine
	copy(h[:], l.Words)
	for _, word := range h {
		if !isWord(word) {
			return heldLine{}, false
		}
	}
	return h, true
}

func (h *heldMemory) wordAt(at int) int {
	return h.cache[at/LineWords][at%LineWords]
}

func (h *heldMemory) storeWord(at int, word int) {
	line := at / LineWords
	h.cache[line][at%LineWords] = word
	h.dirty[line] = true
}

func (h *heldMemory) flushLine(line int) {
	h.sure[line] = h.cache[line]
	h.dirty[line] = false
}

func (h *heldMemory) giveOut() Memory {
	m := Memory{Sure: giveLines(h.sure), Cache: giveLines(h.cache), Dirty: make([]bool, Lines)}
	copy(m.Dirty, h.dirty[:])
	return m
}

func giveLines(held [Lines]heldLine) []Line {
	l := make([]Line, Lines)
	for k := range l {
		l[k].Words = make([]int, LineWords)
		copy(l[k].Words, held[k][:])
	}
	return l
}
