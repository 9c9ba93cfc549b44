package tests

import (
	"testing"

	"loop.example/g00620/impl"
)

// Told by number and not by the program's own constants.
const (
	pageCount  = 16
	ownerCount = 6
	lastOrder  = 4
)

// deal is what owners should be, kept apart from the program; two of them are compared as a whole.
type deal struct {
	own, lent [pageCount]int
}

// dealOf writes a deal out: a mark for each page, . for nobody's, a digit for its owner.
func dealOf(marks string) deal {
	var d deal
	for k, mark := range []byte(marks) {
		if mark != '.' {
			d.own[k] = int(mark - '0')
		}
	}
	return d
}

// with is the deal with pages lent, told by a page and whom to, side by side.
func (d deal) with(numbers ...int) deal {
	for k := 0; k < len(numbers); k += 2 {
		d.lent[numbers[k]] = numbers[k+1]
	}
	return d
}

func (d deal) owners() impl.Owners {
	return impl.Owners{Own: append([]int(nil), d.own[:]...), Lent: append([]int(nil), d.lent[:]...)}
}

// sameDeal says whether owners are a deal, page by page.
func sameDeal(d deal, o impl.Owners) bool {
	if len(o.Own) != pageCount || len(o.Lent) != pageCount {
		return false
	}
	return [pageCount]int(o.Own) == d.own && [pageCount]int(o.Lent) == d.lent
}

func sizeOf(order int) int {
	return []int{1, 2, 4, 8, 16}[order]
}

// free says whether each page of a block is nobody's.
func (d deal) free(at, order int) bool {
	for k := at; k < at+sizeOf(order); k++ {
		if d.own[k] != 0 {
			return false
		}
	}
	return true
}

// inGreater says whether a block is in some greater one that is wholly nobody's.
func (d deal) inGreater(at, order int) bool {
	for greater := order + 1; greater <= lastOrder; greater++ {
		for from := 0; from < pageCount; from += sizeOf(greater) {
			if from <= at && at+sizeOf(order) <= from+sizeOf(greater) && d.free(from, greater) {
				return true
			}
		}
	}
	return false
}

func (d deal) freeBlocks() [][]int {
	l := make([][]int, lastOrder+1)
	for order := range l {
		for at := 0; at < pageCount; at += sizeOf(order) {
			if d.free(at, order) && !d.inGreater(at, order) {
				l[order] = append(l[order], at)
			}
		}
	}
	return l
}

// take is the deal behind TakeBlock, as the document tells it.
func (d deal) take(owner, order int) (deal, int, bool) {
	for _, starts := range d.freeBlocks()[order:] {
		if len(starts) > 0 {
			for k := range sizeOf(order) {
				d.own[starts[0]+k] = owner
			}
			return d, starts[0], true
		}
	}
	return deal{}, 0, false
}

// giveBack is the deal behind FreeBlock; false where it may not be done.
func (d deal) giveBack(owner, at, order int) (deal, bool) {
	if at%sizeOf(order) != 0 {
		return deal{}, false
	}
	for k := at; k < at+sizeOf(order); k++ {
		if d.own[k] != owner || d.lent[k] != 0 {
			return deal{}, false
		}
		d.own[k] = 0
	}
	return d, true
}

func (d deal) mayUse(who int) []int {
	var l []int
	for k := range pageCount {
		if d.own[k] == who || d.lent[k] == who {
			l = append(l, k)
		}
	}
	return l
}

// drop is the deal behind DropOwner, and how many pages were the owner's.
func (d deal) drop(owner int) (deal, int) {
	had := 0
	for k := range pageCount {
		if d.lent[k] == owner {
			d.lent[k] = 0
		}
		if d.own[k] == owner {
			d.own[k], d.lent[k] = 0, 0
			had++
		}
	}
	return d, had
}

// dealFrom deals the pages of a mask out to owners, some of them lent; the others are nobody's.
func dealFrom(mask int, next func(n int) int) deal {
	var d deal
	for k := range pageCount {
		if mask>>k&1 == 1 {
			d.own[k] = 1 + next(ownerCount)
			if to := 1 + next(2*ownerCount); to <= ownerCount && to != d.own[k] {
				d.lent[k] = to
			}
		}
	}
	return d
}

// goodDeals are deals of many kinds: all nobody's, none nobody's, one block nobody's, one block not, and mixed ones.
func goodDeals() []deal {
	l := []deal{
		{}, dealOf("1111111111111111"), dealOf("6666666666666666"), dealOf("1212121212121212"), dealOf("1.2.3.4.5.6.1.2."),
		dealOf(".6.5.4.3.2.1.6.5"), dealOf("1..............6"), dealOf(".......11......."), dealOf("11..............").with(0, 2),
		dealOf("1122334455661122").with(0, 6, 1, 2, 15, 1), dealOf("........11..2.33").with(8, 6, 9, 2, 15, 1),
		dealOf("1111111111111111").with(0, 2, 1, 3, 2, 4, 3, 5, 4, 6, 15, 6), dealOf("6666666666666666").with(0, 1, 7, 5, 15, 1),
		dealOf("11112222....3333"), dealOf("11112222....3333").with(0, 2, 4, 1, 12, 1, 15, 2), dealOf("4444444444444..4").with(0, 3, 15, 5),
	}
	for order := range lastOrder + 1 {
		for at := 0; at < pageCount; at += sizeOf(order) {
			in, out := deal{}, dealOf("3333333333333333")
			for k := at; k < at+sizeOf(order); k++ {
				in.own[k], out.own[k] = 4, 0
			}
			l = append(l, in, out)
		}
	}
	next := numbersFrom(5)
	for range 40 {
		l = append(l, dealFrom(next(1<<pageCount), next))
	}
	return l
}

var (
	badOwnerNumbers = append([]int{-6, -1, 0, ownerCount + 1, 8, 16, 100}, farOff...)
	badOrders       = append([]int{-64, -4, -1, lastOrder + 1, 6, 16, 62, 63, 64, 65, 100}, farOff...)
	badPages        = append([]int{-16, -1, pageCount, pageCount + 1, 32, 100}, farOff...)
)

// badOwners are owners that are not good, each for one reason.
func badOwners() []impl.Owners {
	free, full := deal{}.owners(), dealOf("1122334455661122").with(0, 6, 15, 1).owners()
	bad := []impl.Owners{{}, {Own: []int{}, Lent: []int{}}, {Own: []int{1}, Lent: []int{2}}}
	for _, o := range []impl.Owners{free, full} {
		for _, many := range []int{0, 1, 8, pageCount - 1} {
			bad = append(bad, impl.Owners{Own: o.Own[:many], Lent: o.Lent}, impl.Owners{Own: o.Own, Lent: o.Lent[:many]},
				impl.Owners{Own: o.Own[:many], Lent: o.Lent[:many]})
		}
		for _, many := range []int{1, pageCount, 1000} {
			own, lent := append(o.Own[:pageCount:pageCount], make([]int, many)...), append(o.Lent[:pageCount:pageCount], make([]int, many)...)
			bad = append(bad, impl.Owners{Own: own, Lent: o.Lent}, impl.Owners{Own: o.Own, Lent: lent}, impl.Owners{Own: own, Lent: lent})
		}
	}
	return append(bad, badlyOwned()...)
}

// badlyOwned are owners of the right lengths, with one page whose owner or whose lending is none.
func badlyOwned() []impl.Owners {
	var bad []impl.Owners
	spoilt := func(k, own, lent int) {
		for _, from := range []deal{{}, dealOf("1122334455661122").with(0, 6, 15, 1)} {
			from.own[k], from.lent[k] = own, lent
			bad = append(bad, from.owners())
		}
	}
	for k := range pageCount {
		for _, n := range badOwnerNumbers {
			if n != 0 {
				spoilt(k, n, 0)
				spoilt(k, n, 2)
				spoilt(k, n, n)
				spoilt(k, 2, n)
				spoilt(k, 0, n)
			}
		}
		for owner := 1; owner <= ownerCount; owner++ {
			spoilt(k, owner, owner)
			spoilt(k, 0, owner)
		}
	}
	return bad
}

// wantDeal fails where f does not answer owners that are the deal, and what else is said.
func wantDeal(t *testing.T, d deal, rest []any, f any, args ...any) {
	t.Helper()
	want(t, append([]any{d.owners()}, rest...), f, args...)
}
