package tests

import (
	"slices"
	"testing"

	"loop.example/g00620/impl"
)

// Promise 5: a block that is taken was nobody's, and given back all is as it was.

// wantTaken fails where TakeBlock does not take the block it should, or FreeBlock does not give it back as it was.
func wantTaken(t *testing.T, d deal, owner, order int) {
	t.Helper()
	o, at, ok := impl.TakeBlock(d.owners(), owner, order)
	if !ok {
		wantNoRoom(t, d, order)
		return
	}
	if at < 0 || at >= pageCount || at%sizeOf(order) != 0 || !d.free(at, order) {
		t.Fatalf("%v: the block of order %d at %d was no block of nobody's", d, order, at)
	}
	wantSmallest(t, d, order, at)
	said := d
	for k := range sizeOf(order) {
		said.own[at+k] = owner
	}
	if !sameDeal(said, o) || !impl.GoodOwners(o) {
		t.Fatalf("%v: taken by %d at %d of order %d: %v", d, owner, at, order, o)
	}
	if back, ok := impl.FreeBlock(o, owner, at, order); !ok || !sameDeal(d, back) {
		t.Fatalf("%v: taken by %d at %d of order %d and given back: %v, %v", d, owner, at, order, back, ok)
	}
}

func wantNoRoom(t *testing.T, d deal, order int) {
	t.Helper()
	for at := 0; at < pageCount; at += sizeOf(order) {
		if d.free(at, order) {
			t.Fatalf("%v: none of order %d, but there is one at %d", d, order, at)
		}
	}
}

// wantSmallest fails where a block that is great enough is smaller than the one that begins at this page, or as small and ahead of it.
func wantSmallest(t *testing.T, d deal, order, at int) {
	t.Helper()
	from := order
	for from <= lastOrder && (at%sizeOf(from) != 0 || !d.free(at, from) || d.inGreater(at, from)) {
		from++
	}
	if from > lastOrder {
		t.Fatalf("%v: no block that is great enough for order %d begins at %d", d, order, at)
	}
	for smaller, starts := range d.freeBlocks()[:from+1] {
		for _, start := range starts {
			if smaller >= order && (smaller < from || start < at) {
				t.Fatalf("%v: order %d was taken at %d of one of order %d, but there is one of order %d at %d", d, order, at, from, smaller, start)
			}
		}
	}
}

// TestTakeOfAnyPages goes through each choice of pages that are nobody's.
func TestTakeOfAnyPages(t *testing.T) {
	next := numbersFrom(55)
	for mask := range 1 << pageCount {
		d := dealFrom(mask, next)
		for order := range lastOrder + 1 {
			wantTaken(t, d, 1+(mask+order)%ownerCount, order)
		}
	}
}

func TestTakeByEachOwner(t *testing.T) {
	for _, d := range goodDeals() {
		for owner := 1; owner <= ownerCount; owner++ {
			for order := range lastOrder + 1 {
				wantTaken(t, d, owner, order)
			}
		}
	}
}

// A smaller block that is great enough comes ahead of a greater one at an earlier page.
func TestTakeSmallest(t *testing.T) {
	for _, c := range []struct {
		marks string
		at    []int // for each order; -1 where there is none
	}{
		{"................", []int{0, 0, 0, 0, 0}},
		{"1...............", []int{1, 2, 4, 8, -1}},
		{"...............1", []int{14, 12, 8, 0, -1}},
		{"........11..2.33", []int{13, 10, 0, 0, -1}},
		{"........1.......", []int{9, 10, 12, 0, -1}},
		{".......1........", []int{6, 4, 0, 8, -1}},
		{"1..11..11..11..1", []int{1, -1, -1, -1, -1}},
		{"11..11..11..11..", []int{2, 2, -1, -1, -1}},
		{"1....111........", []int{1, 2, 8, 8, -1}},
		{"....11111111....", []int{0, 0, 0, -1, -1}},
		{"..111111111111..", []int{0, 0, -1, -1, -1}},
		{"1111111111111111", []int{-1, -1, -1, -1, -1}},
	} {
		for order, said := range c.at {
			o, at, ok := impl.TakeBlock(dealOf(c.marks).owners(), 5, order)
			if ok != (said >= 0) || ok && at != said || !ok && (at != 0 || o.Own != nil || o.Lent != nil) {
				t.Errorf("%s, order %d: %d, %v, not %d", c.marks, order, at, ok, said)
			}
		}
	}
}

// Pages taken one by one come as the first ones of ever greater blocks, and given back in any order they are one block again.
func TestBlocksGrowTogether(t *testing.T) {
	next := numbersFrom(7)
	for order := range lastOrder + 1 {
		for range 40 {
			o := impl.NewOwners()
			var taken []int
			for k := 0; k < pageCount; k += sizeOf(order) {
				var at int
				var ok bool
				if o, at, ok = impl.TakeBlock(o, 1+k%ownerCount, order); !ok || at != k {
					t.Fatalf("order %d, from %d on: %d, %v", order, k, at, ok)
				}
				taken = append(taken, at)
			}
			for len(taken) > 0 {
				k := next(len(taken))
				at := taken[k]
				taken = slices.Delete(taken, k, k+1)
				var ok bool
				if o, ok = impl.FreeBlock(o, 1+at%ownerCount, at, order); !ok {
					t.Fatal("FreeBlock refused", at, order)
				}
			}
			if free, ok := impl.FreeBlocks(o); !ok || tell(free) != "[[] [] [] [] [0]]" {
				t.Fatalf("order %d: %v, %v", order, free, ok)
			}
		}
	}
}

// A block that was taken may go back in parts, and parts that lie side by side as one.
func TestBlockBackInParts(t *testing.T) {
	o, at, ok := impl.TakeBlock(dealOf("2.......33333333").owners(), 1, 2)
	if !ok || at != 4 {
		t.Fatal(at, ok)
	}
	for _, part := range []struct{ at, order int }{{6, 1}, {4, 0}, {5, 0}} {
		if o, ok = impl.FreeBlock(o, 1, part.at, part.order); !ok {
			t.Fatal("FreeBlock refused", part)
		}
	}
	if !sameDeal(dealOf("2.......33333333"), o) {
		t.Fatal(o)
	}
	if o, ok = impl.FreeBlock(o, 3, 8, 3); !ok || !sameDeal(dealOf("2..............."), o) {
		t.Fatal(o, ok)
	}
}

// What is lent may be used by both, by none other, and comes back as it was.
func TestLentPagesComeBack(t *testing.T) {
	for _, d := range goodDeals() {
		for page := range pageCount {
			for to := 1; to <= ownerCount; to++ {
				if owner := d.own[page]; owner != 0 && to != owner && d.lent[page] == 0 {
					wantLent(t, d, owner, page, to)
				}
			}
		}
	}
}

func wantLent(t *testing.T, d deal, owner, page, to int) {
	t.Helper()
	o, ok := impl.LendPage(d.owners(), owner, page, to)
	if !ok || !sameDeal(d.with(page, to), o) || !impl.GoodOwners(o) {
		t.Fatalf("%v: page %d of %d lent to %d: %v, %v", d, page, owner, to, o, ok)
	}
	for who := 1; who <= ownerCount; who++ {
		pages, ok := impl.MayUse(o, who)
		if !ok || slices.Contains(pages, page) != (who == owner || who == to) {
			t.Fatalf("%v: page %d of %d lent to %d: %d may use %v, %v", d, page, owner, to, who, pages, ok)
		}
	}
	if _, ok := impl.FreeBlock(o, owner, page, 0); ok {
		t.Fatalf("%v: page %d was given back while lent to %d", d, page, to)
	}
	if back, ok := impl.BackPage(o, owner, page); !ok || !sameDeal(d, back) {
		t.Fatalf("%v: page %d of %d back from %d: %v, %v", d, page, owner, to, back, ok)
	}
}

// Behind DropOwner one owns nothing, nothing is lent to it, and nothing of the others' is changed but that.
func TestDroppedOwnNothing(t *testing.T) {
	for _, d := range goodDeals() {
		for owner := 1; owner <= ownerCount; owner++ {
			o, had, ok := impl.DropOwner(d.owners(), owner)
			if !ok || !impl.GoodOwners(o) || slices.Contains(o.Own, owner) || slices.Contains(o.Lent, owner) {
				t.Fatalf("%v: behind the drop of %d: %v, %v", d, owner, o, ok)
			}
			if pages, ok := impl.MayUse(o, owner); !ok || len(pages) != 0 {
				t.Fatalf("%v: behind the drop of %d it may use %v, %v", d, owner, pages, ok)
			}
			many := 0
			for k := range pageCount {
				others := d.own[k] != owner
				if !others {
					many++
				}
				if others && o.Own[k] != d.own[k] || !others && o.Own[k] != 0 || others && d.lent[k] != owner && o.Lent[k] != d.lent[k] {
					t.Fatalf("%v: behind the drop of %d page %d is %d's, lent to %d", d, owner, k, o.Own[k], o.Lent[k])
				}
			}
			if had != many {
				t.Fatalf("%v: %d had %d pages, not %d", d, owner, had, many)
			}
		}
	}
}

// TestDealsBehindDeals plays many steps one behind the other, good ones and others, and then gives all back.
func TestDealsBehindDeals(t *testing.T) {
	next := numbersFrom(6)
	d, o := deal{}, impl.NewOwners()
	for range 30000 {
		after, got, ok := playDeal(d, o, next)
		if got.Own == nil != !ok || ok && !sameDeal(after, got) {
			t.Fatalf("%v: %v, not %v, %v", d, got, after, ok)
		}
		if ok {
			d, o = after, got
		}
		if free, told := impl.FreeBlocks(o); !told || tell(free) != tell(d.freeBlocks()) {
			t.Fatalf("%v: %v, not %v", d, free, d.freeBlocks())
		}
	}
	for owner := 1; owner <= ownerCount; owner++ {
		o, _, _ = impl.DropOwner(o, owner)
	}
	if !sameDeal(deal{}, o) {
		t.Fatal(o)
	}
}

// playDeal does one step by the program and apart from it; ok tells whether it may be done.
func playDeal(d deal, o impl.Owners, next func(n int) int) (after deal, got impl.Owners, ok bool) {
	owner, page, order := 1+next(ownerCount), next(pageCount), next(lastOrder)
	switch next(10) {
	case 0, 1, 2:
		after, _, ok = d.take(owner, order)
		got, _, _ = impl.TakeBlock(o, owner, order)
	case 3, 4, 5:
		owner = max(1, d.own[page])
		page -= page % sizeOf(order)
		after, ok = d.giveBack(owner, page, order)
		got, _ = impl.FreeBlock(o, owner, page, order)
	case 6, 7:
		to := owner
		owner = max(1, d.own[page])
		after, ok = d.with(page, to), d.own[page] == owner && d.lent[page] == 0 && to != owner
		got, _ = impl.LendPage(o, owner, page, to)
	case 8:
		owner = max(1, d.own[page])
		after, ok = d.with(page, 0), d.own[page] == owner && d.lent[page] != 0
		got, _ = impl.BackPage(o, owner, page)
	case 9:
		if next(20) > 0 {
			break
		}
		after, _ = d.drop(owner)
		got, _, ok = impl.DropOwner(o, owner)
	}
	return after, got, ok
}
