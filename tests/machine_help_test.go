package tests

import (
	"slices"
	"testing"

	"loop.example/g00620/impl"
)

// Told by number and not by the program's own constants.
const (
	programMost = 16
	roomCount   = 8
	toldMost    = 20
	stepsMost   = 60
	wordMost    = 65535
)

func setting(n int) impl.Ins { return impl.Ins{Kind: 1, N: n} }
func adding(n int) impl.Ins  { return impl.Ins{Kind: 2, N: n} }
func loading(a int) impl.Ins { return impl.Ins{Kind: 3, A: a} }
func storing(a int) impl.Ins { return impl.Ins{Kind: 4, A: a} }
func jumping(n int) impl.Ins { return impl.Ins{Kind: 5, N: n} }
func telling() impl.Ins      { return impl.Ins{Kind: 6} }
func halting() impl.Ins      { return impl.Ins{Kind: 7} }

func programOf(l ...impl.Ins) []impl.Ins {
	return l
}

// being is what a guest should be, kept apart from the program.
type being struct {
	at, acc int
	cells   [roomCount]int
	told    []int
	done    bool
}

func (b being) guest() impl.Guest {
	return impl.Guest{At: b.at, Acc: b.acc, Cells: slices.Clone(b.cells[:]), Told: slices.Clone(b.told), Done: b.done}
}

// sameBeing says whether a guest is a being, word by word.
func sameBeing(b being, g impl.Guest) bool {
	return b.at == g.At && b.acc == g.Acc && b.done == g.Done && slices.Equal(b.cells[:], g.Cells) && slices.Equal(b.told, g.Told)
}

// ended is the being as it is, and done.
func (b being) ended() being {
	b.done = true
	return b
}

// gone is the being with another word that it goes by, behind the instruction.
func (b being) gone(acc int) being {
	b.acc = acc
	b.at++
	return b
}

// does tells by the number of each kind what it makes of a being that has it to do.
var does = [...]func(b being, in impl.Ins) being{
	1: func(b being, in impl.Ins) being { return b.gone(in.N) },
	2: func(b being, in impl.Ins) being {
		if sum := b.acc + in.N; sum <= wordMost {
			return b.gone(sum)
		}
		return b.gone(b.acc + in.N - wordMost - 1)
	},
	3: func(b being, in impl.Ins) being { return b.gone(b.cells[in.A]) },
	4: func(b being, in impl.Ins) being {
		b.cells[in.A] = b.acc
		return b.gone(b.acc)
	},
	5: func(b being, in impl.Ins) being {
		if b.acc == 0 {
			return b.gone(0)
		}
		b.at = in.N
		return b
	},
	6: func(b being, _ impl.Ins) being {
		if len(b.told) == toldMost {
			return b.ended()
		}
		b.told = append(slices.Clone(b.told), b.acc)
		return b.gone(b.acc)
	},
	7: func(b being, _ impl.Ins) being { return b.ended() },
}

// moved is a being that is not done, behind one step of a good program.
func (b being) moved(p []impl.Ins) being {
	if b.at >= len(p) {
		return b.ended()
	}
	return does[p[b.at].Kind](b, p[b.at])
}

// ran is a being behind so many steps of a good program, how many these were, and the cells that were stored to.
func (b being) ran(p []impl.Ins, steps int) (being, int, []int) {
	var cells []int
	for many := range steps {
		if b.done {
			return b, many, cells
		}
		if b.at < len(p) && p[b.at].Kind == 4 && !slices.Contains(cells, p[b.at].A) {
			cells = append(cells, p[b.at].A)
			slices.Sort(cells)
		}
		b = b.moved(p)
	}
	return b, steps, cells
}

// plainPrograms are told one by one, each for something that it does.
func plainPrograms() [][]impl.Ins {
	l := [][]impl.Ins{
		// One instruction of each kind, with its least number and its greatest.
		{setting(0)}, {setting(wordMost)}, {adding(0)}, {adding(wordMost)}, {loading(0)}, {loading(7)},
		{storing(0)}, {storing(7)}, {jumping(0)}, {jumping(1)}, {jumping(15)}, {telling()}, {halting()},
		// It tells till no more may be told; it tells the same again and again.
		{adding(1), telling(), storing(0), jumping(0)},
		{setting(7), telling(), jumping(1)},
		// It never halts: on one place, over two, over all 16.
		{setting(1), jumping(1)},
		{adding(1), storing(3), jumping(0)},
		{jumping(3), setting(9), storing(2), loading(2), adding(1), jumping(0)},
		// It goes down to 0, where a jump goes on behind itself.
		{setting(5), adding(wordMost), storing(1), jumping(1), halting()},
		{setting(2), telling(), adding(wordMost), jumping(1), setting(3), storing(6)},
		// Jumps behind the program's end, just there and far.
		{setting(1), jumping(2)},
		{setting(1), jumping(15)},
		{adding(3), storing(1), jumping(4), storing(2)},
		// A jump forth over what it leaves out.
		{setting(4), jumping(4), storing(0), telling(), storing(5), halting()},
		// A sum past the greatest word, and up to it.
		{setting(wordMost), adding(1), storing(0), jumping(0), setting(wordMost), adding(wordMost), storing(1)},
		{setting(wordMost - 1), adding(1), storing(4), adding(1), storing(5)},
		// Cells that are set again to what they had.
		{loading(3), storing(3)},
		{loading(7), storing(7), storing(7), halting()},
		// A cell to another, and one to all.
		{loading(0), storing(7), loading(7), storing(0), loading(4), storing(5), halting()},
		{setting(8), storing(7), storing(6), storing(5), storing(4), storing(3), storing(2), storing(1), storing(0)},
		{halting(), setting(1), storing(1)},
	}
	return append(l, longPrograms()...)
}

// longPrograms have as many instructions as may be, most of them no InHalt.
func longPrograms() [][]impl.Ins {
	var adds, halts, stores, tells []impl.Ins
	for k := range programMost {
		adds = append(adds, adding(k))
		halts = append(halts, halting())
		stores = append(stores, storing((k*3)%roomCount))
		tells = append(tells, telling())
	}
	around := append(slices.Clone(adds[:programMost-1]), jumping(0))
	mixed := programOf(adding(1), storing(0), adding(2), storing(1), loading(0), telling(), loading(7), storing(2),
		jumping(11), setting(6), storing(3), adding(wordMost), jumping(4), loading(6), storing(6), jumping(15))
	return [][]impl.Ins{adds, halts, stores, tells, around, mixed}
}

// anyIns is an instruction that is as said.
func anyIns(next func(n int) int) impl.Ins {
	words := []int{0, 1, 2, 3, 9, 1000, wordMost - 1, wordMost}
	switch next(12) {
	case 0:
		return setting(words[next(len(words))])
	case 1, 2:
		return adding(words[next(len(words))])
	case 3, 4:
		return loading(next(roomCount))
	case 5, 6, 7:
		return storing(next(roomCount))
	case 8, 9:
		return jumping(next(programMost))
	case 10:
		return telling()
	}
	if next(3) == 0 {
		return halting()
	}
	return telling()
}

func anyProgram(next func(n int) int) []impl.Ins {
	p := make([]impl.Ins, 1+next(programMost))
	for k := range p {
		p[k] = anyIns(next)
	}
	return p
}

// goodPrograms are of all kinds: plain ones, and such of each length as come by a run of numbers.
func goodPrograms() [][]impl.Ins {
	l := plainPrograms()
	next := numbersFrom(9)
	for many := 1; many <= programMost; many++ {
		for range 4 {
			p := make([]impl.Ins, many)
			for k := range p {
				p[k] = anyIns(next)
			}
			l = append(l, p)
		}
	}
	return l
}

// toldWords are so many words, the first one 0.
func toldWords(many int) []int {
	var l []int
	for k := range many {
		l = append(l, (k*4369)%(wordMost+1))
	}
	return l
}

// goodBeings are of all kinds: At from 0 to the most, Acc 0 and not 0, nothing told, 19 and 20, done or not.
func goodBeings() []being {
	cells := [][roomCount]int{{}, {1, 2, 3, 4, 5, 6, 7, 8}, {0, wordMost, 0, 1, wordMost - 1, 0, 9, wordMost}}
	accs := []int{0, 1, wordMost, 0, 77}
	var l []being
	for at := range programMost + 1 {
		for k, many := range []int{0, 1, toldMost - 1, toldMost} {
			for is := range 4 {
				n := at + 3*k + 7*is
				l = append(l, being{at: at, acc: accs[n%5], cells: cells[n%3], told: toldWords(many), done: is == 0})
			}
		}
	}
	return append(l, being{}, being{}.ended(), being{acc: wordMost, cells: cells[1]}, being{cells: cells[2], told: make([]int, toldMost)})
}

// fewBeings are some of them, for what is asked of many other things as well.
func fewBeings() []being {
	return []being{{}, {cells: [roomCount]int{8, 7, 6, 5, 4, 3, 2, 1}}, {acc: 1, told: toldWords(19)}, {at: 1, acc: wordMost, told: toldWords(20)}, {at: 16, acc: 3, told: toldWords(1)}, being{at: 2, acc: 5}.ended()}
}

// fewPrograms are some programs that are good, for what is asked of many other things as well.
func fewPrograms() [][]impl.Ins {
	return [][]impl.Ins{{halting()}, {adding(1), telling(), storing(0), jumping(0)}, longPrograms()[0], longPrograms()[5]}
}

// badInstructions are not as said, for each reason at least one that is so for it alone.
func badInstructions() []impl.Ins {
	l := []impl.Ins{{}, {A: 1}, {N: 1}}
	for _, kind := range append([]int{-7, -1, 0, 8, 9, 100}, farOff...) {
		l = append(l, impl.Ins{Kind: kind}, impl.Ins{Kind: kind, A: 1}, impl.Ins{Kind: kind, N: 1})
	}
	for _, n := range append([]int{-16, -1, wordMost + 1}, farOff...) {
		l = append(l, setting(n), adding(n), jumping(n))
	}
	for _, n := range []int{programMost, programMost + 1, 1000, wordMost} {
		l = append(l, jumping(n))
	}
	for _, a := range append([]int{-8, -1, roomCount, roomCount + 1, 100}, farOff...) {
		l = append(l, loading(a), storing(a))
	}
	return append(l, uselessNumbers()...)
}

// uselessNumbers are instructions with something in a number that their kind has no use for.
func uselessNumbers() []impl.Ins {
	var l []impl.Ins
	for _, some := range append([]int{-1, 1, 2, roomCount - 1, roomCount, 15, 16, wordMost, wordMost + 1}, farOff...) {
		l = append(l, impl.Ins{Kind: 1, A: some}, impl.Ins{Kind: 1, A: some, N: 5}, impl.Ins{Kind: 2, A: some}, impl.Ins{Kind: 2, A: some, N: 5})
		l = append(l, impl.Ins{Kind: 3, N: some}, impl.Ins{Kind: 3, A: 5, N: some}, impl.Ins{Kind: 4, N: some}, impl.Ins{Kind: 4, A: 5, N: some})
		l = append(l, impl.Ins{Kind: 5, A: some}, impl.Ins{Kind: 5, A: some, N: 5})
		for kind := 6; kind <= 7; kind++ {
			l = append(l, impl.Ins{Kind: kind, A: some}, impl.Ins{Kind: kind, N: some}, impl.Ins{Kind: kind, A: some, N: some})
		}
	}
	return l
}

// badPrograms are programs that are not good, for each reason at least one that is so for it alone.
func badPrograms() [][]impl.Ins {
	bad := [][]impl.Ins{nil, {}}
	for _, many := range []int{programMost + 1, programMost + 2, 2 * programMost, 200} {
		p := make([]impl.Ins, many)
		for k := range p {
			p[k] = adding(1)
		}
		bad = append(bad, p)
	}
	for k, in := range badInstructions() {
		long := slices.Clone(longPrograms()[k%6])
		long[(k*5)%programMost] = in
		last := slices.Clone(longPrograms()[(k+1)%6])
		last[programMost-1] = in
		bad = append(bad, programOf(in), programOf(halting(), in), programOf(in, halting()), long, last)
	}
	return bad
}

// badGuests are guests that are not good, for each reason at least one that is so for it alone.
func badGuests() []impl.Guest {
	var bad []impl.Guest
	add := func(spoil func(g *impl.Guest)) {
		for _, b := range []being{{}, {at: 1, acc: 4, told: toldWords(toldMost)}, being{at: 16, acc: wordMost, told: toldWords(2)}.ended()} {
			g := b.guest()
			spoil(&g)
			bad = append(bad, g)
		}
	}
	for _, at := range append([]int{-16, -1, programMost + 1, programMost + 2, 100}, farOff...) {
		add(func(g *impl.Guest) { g.At = at })
	}
	for k, word := range append([]int{-wordMost, -1, wordMost + 1, wordMost + 2}, farOff...) {
		add(func(g *impl.Guest) { g.Acc = word })
		for cell := range roomCount {
			add(func(g *impl.Guest) { g.Cells[cell] = word })
		}
		for _, place := range []int{0, 1, k % toldMost, toldMost - 1} {
			add(func(g *impl.Guest) {
				g.Told = toldWords(toldMost)
				g.Told[place] = word
			})
		}
		add(func(g *impl.Guest) { g.Told = []int{word} })
	}
	for _, many := range []int{0, 1, roomCount - 1, roomCount + 1, 2 * roomCount} {
		add(func(g *impl.Guest) { g.Cells = make([]int, many) })
	}
	for _, many := range []int{toldMost + 1, toldMost + 2, 2 * toldMost} {
		add(func(g *impl.Guest) { g.Told = toldWords(many) })
	}
	return append(bad, impl.Guest{}, impl.Guest{Done: true})
}

// wantBeing fails where f does not answer a guest that is the being, and true.
func wantBeing(t *testing.T, b being, f any, args ...any) {
	t.Helper()
	want(t, []any{b.guest(), true}, f, args...)
}
