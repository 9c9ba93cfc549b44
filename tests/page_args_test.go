package tests

import (
	"testing"

	"loop.example/g00620/impl"
)

// Promise 19, for chapter 5: every function answers at any arguments, and writes into none.

func TestNewOwners(t *testing.T) {
	wantDeal(t, deal{}, nil, impl.NewOwners)
	// What one call gave out is not what the next one gives.
	impl.NewOwners().Own[3] = 5
	wantDeal(t, deal{}, nil, impl.NewOwners)
}

func TestGoodOwners(t *testing.T) {
	for _, d := range goodDeals() {
		want(t, []any{true}, impl.GoodOwners, d.owners())
	}
	for _, o := range badOwners() {
		want(t, []any{false}, impl.GoodOwners, o)
	}
	for page := range pageCount {
		for own := -2; own < 10; own++ {
			for lent := -2; lent < 10; lent++ {
				d := dealOf("5544332211665544")
				d.own[page], d.lent[page] = own, lent
				good := own == 0 && lent == 0 || own >= 1 && own <= 6 && lent >= 0 && lent <= 6 && lent != own
				want(t, []any{good}, impl.GoodOwners, d.owners())
			}
		}
	}
}

func TestTakeBlock(t *testing.T) {
	for _, d := range goodDeals() {
		for _, owner := range []int{1, 3, ownerCount} {
			for order := range lastOrder + 1 {
				if after, at, ok := d.take(owner, order); ok {
					wantDeal(t, after, []any{at, true}, impl.TakeBlock, d.owners(), owner, order)
				} else {
					wantZero(t, impl.TakeBlock, d.owners(), owner, order)
				}
			}
		}
	}
	for _, d := range []deal{{}, dealOf("1122334455661122").with(0, 6, 15, 1), dealOf("........11..2.33")} {
		for _, owner := range badOwnerNumbers {
			for _, order := range []int{0, 1, lastOrder, -1, lastOrder + 1} {
				wantZero(t, impl.TakeBlock, d.owners(), owner, order)
			}
		}
		for _, order := range badOrders {
			wantZero(t, impl.TakeBlock, d.owners(), 1, order)
			wantZero(t, impl.TakeBlock, d.owners(), ownerCount, order)
		}
	}
	for _, o := range badOwners() {
		wantZero(t, impl.TakeBlock, o, 1, 0)
		wantZero(t, impl.TakeBlock, o, ownerCount, 3)
	}
}

func TestFreeBlock(t *testing.T) {
	for _, d := range goodDeals() {
		for _, owner := range []int{1, 2, 3, ownerCount} {
			for order := range lastOrder + 1 {
				for at := range pageCount {
					if after, ok := d.giveBack(owner, at, order); ok {
						wantDeal(t, after, []any{true}, impl.FreeBlock, d.owners(), owner, at, order)
					} else {
						wantZero(t, impl.FreeBlock, d.owners(), owner, at, order)
					}
				}
			}
		}
	}
}

func TestFreeBlockWrong(t *testing.T) {
	all := dealOf("1111111111111111")
	for order := 1; order <= lastOrder; order++ {
		for at := range pageCount {
			if at%sizeOf(order) != 0 {
				wantZero(t, impl.FreeBlock, all.owners(), 1, at, order)
			}
		}
		for at := 0; at < pageCount; at += sizeOf(order) {
			for k := at; k < at+sizeOf(order); k++ {
				// One page of the block is lent, another's, or nobody's.
				wantZero(t, impl.FreeBlock, all.with(k, 2).owners(), 1, at, order)
				for _, other := range []int{0, 2, ownerCount} {
					d := all
					d.own[k] = other
					wantZero(t, impl.FreeBlock, d.owners(), 1, at, order)
				}
			}
		}
	}
	for _, d := range []deal{{}, all, dealOf("6666666666666666")} {
		for _, owner := range badOwnerNumbers {
			for order := range lastOrder + 1 {
				wantZero(t, impl.FreeBlock, d.owners(), owner, 0, order)
			}
		}
		for _, at := range badPages {
			wantZero(t, impl.FreeBlock, d.owners(), 1, at, 0)
			wantZero(t, impl.FreeBlock, d.owners(), ownerCount, at, lastOrder)
		}
		for _, order := range badOrders {
			wantZero(t, impl.FreeBlock, d.owners(), 1, 0, order)
			wantZero(t, impl.FreeBlock, d.owners(), ownerCount, pageCount-1, order)
		}
	}
	for _, o := range badOwners() {
		wantZero(t, impl.FreeBlock, o, 1, 0, 0)
		wantZero(t, impl.FreeBlock, o, 2, 2, 1)
	}
}

func TestLendPage(t *testing.T) {
	for _, d := range goodDeals() {
		for page := range pageCount {
			for _, owner := range []int{1, 2, 4, ownerCount} {
				for _, to := range []int{1, 2, ownerCount} {
					if d.own[page] == owner && d.lent[page] == 0 && to != owner {
						wantDeal(t, d.with(page, to), []any{true}, impl.LendPage, d.owners(), owner, page, to)
					} else {
						wantZero(t, impl.LendPage, d.owners(), owner, page, to)
					}
				}
			}
		}
	}
}

func TestLendPageWrong(t *testing.T) {
	for page := range pageCount {
		for owner := 1; owner <= ownerCount; owner++ {
			d := deal{}
			wantZero(t, impl.LendPage, d.owners(), owner, page, 1+owner%ownerCount)
			d.own[page] = owner
			wantZero(t, impl.LendPage, d.owners(), owner, page, owner)
			wantZero(t, impl.LendPage, d.owners(), 1+owner%ownerCount, page, owner)
			for to := 1; to <= ownerCount; to++ {
				wantZero(t, impl.LendPage, d.with(page, 1+owner%ownerCount).owners(), owner, page, to)
			}
		}
	}
	for _, d := range []deal{{}, dealOf("1111111111111111"), dealOf("1122334455661122").with(0, 6, 15, 1)} {
		for _, n := range badOwnerNumbers {
			for _, page := range []int{0, 1, pageCount - 1} {
				wantZero(t, impl.LendPage, d.owners(), n, page, 2)
				wantZero(t, impl.LendPage, d.owners(), 1, page, n)
				wantZero(t, impl.LendPage, d.owners(), n, page, n)
			}
		}
		for _, page := range badPages {
			wantZero(t, impl.LendPage, d.owners(), 1, page, 2)
			wantZero(t, impl.LendPage, d.owners(), ownerCount, page, 1)
		}
	}
	for _, o := range badOwners() {
		wantZero(t, impl.LendPage, o, 1, 1, 2)
		wantZero(t, impl.LendPage, o, 2, 2, ownerCount)
	}
}

func TestBackPage(t *testing.T) {
	for _, d := range goodDeals() {
		for page := range pageCount {
			for owner := 1; owner <= ownerCount; owner++ {
				if d.own[page] == owner && d.lent[page] != 0 {
					wantDeal(t, d.with(page, 0), []any{true}, impl.BackPage, d.owners(), owner, page)
				} else {
					// Also the one it is lent to: only its owner has it back.
					wantZero(t, impl.BackPage, d.owners(), owner, page)
				}
			}
		}
	}
	lent := dealOf("1111111111111111").with(0, 2, 7, 3, 15, ownerCount)
	wantZero(t, impl.BackPage, lent.owners(), 2, 0)
	wantZero(t, impl.BackPage, lent.owners(), ownerCount, 15)
	for _, d := range []deal{{}, lent} {
		for _, owner := range badOwnerNumbers {
			wantZero(t, impl.BackPage, d.owners(), owner, 0)
			wantZero(t, impl.BackPage, d.owners(), owner, pageCount-1)
		}
		for _, page := range badPages {
			wantZero(t, impl.BackPage, d.owners(), 1, page)
			wantZero(t, impl.BackPage, d.owners(), ownerCount, page)
		}
	}
	for _, o := range badOwners() {
		wantZero(t, impl.BackPage, o, 1, 0)
		wantZero(t, impl.BackPage, o, 2, 15)
	}
}

func TestMayUse(t *testing.T) {
	shared := dealOf("1122............").with(0, 2, 3, 1)
	want(t, []any{[]int{0, 1, 3}, true}, impl.MayUse, shared.owners(), 1)
	want(t, []any{[]int{0, 2, 3}, true}, impl.MayUse, shared.owners(), 2)
	want(t, []any{[]int(nil), true}, impl.MayUse, shared.owners(), ownerCount)
	for _, d := range goodDeals() {
		for who := 1; who <= ownerCount; who++ {
			want(t, []any{d.mayUse(who), true}, impl.MayUse, d.owners(), who)
		}
		for _, who := range badOwnerNumbers {
			wantZero(t, impl.MayUse, d.owners(), who)
		}
	}
	for _, o := range badOwners() {
		wantZero(t, impl.MayUse, o, 1)
		wantZero(t, impl.MayUse, o, ownerCount)
	}
}

func TestFreeBlocks(t *testing.T) {
	for _, c := range []struct {
		marks string
		said  [][]int
	}{
		{"................", [][]int{{}, {}, {}, {}, {0}}},
		{"1111111111111111", [][]int{{}, {}, {}, {}, {}}},
		{"11..............", [][]int{{}, {2}, {4}, {8}, {}}},
		{"1..............6", [][]int{{1, 14}, {2, 12}, {4, 8}, {}, {}}},
		{".......11.......", [][]int{{6, 9}, {4, 10}, {0, 12}, {}, {}}},
		{"1..11..11..11..1", [][]int{{1, 2, 5, 6, 9, 10, 13, 14}, {}, {}, {}, {}}},
		{"11..11..11..11..", [][]int{{}, {2, 6, 10, 14}, {}, {}, {}}},
		{".6.5.4.3.2.1.6.5", [][]int{{0, 2, 4, 6, 8, 10, 12, 14}, {}, {}, {}, {}}},
		{"1111........1111", [][]int{{}, {}, {4, 8}, {}, {}}},
	} {
		want(t, []any{c.said, true}, impl.FreeBlocks, dealOf(c.marks).owners())
	}
	for _, d := range goodDeals() {
		want(t, []any{d.freeBlocks(), true}, impl.FreeBlocks, d.owners())
	}
	for _, o := range badOwners() {
		wantZero(t, impl.FreeBlocks, o)
	}
}

func TestDropOwner(t *testing.T) {
	shared := dealOf("11223...........").with(0, 2, 1, 3, 2, 1, 4, 2)
	wantDeal(t, dealOf("..223...........").with(4, 2), []any{2, true}, impl.DropOwner, shared.owners(), 1)
	wantDeal(t, dealOf("11..3...........").with(1, 3), []any{2, true}, impl.DropOwner, shared.owners(), 2)
	wantDeal(t, dealOf("1122............").with(0, 2, 2, 1), []any{1, true}, impl.DropOwner, shared.owners(), 3)
	wantDeal(t, shared, []any{0, true}, impl.DropOwner, shared.owners(), 4)
	wantDeal(t, deal{}, []any{pageCount, true}, impl.DropOwner, dealOf("6666666666666666").with(0, 1, 15, 5).owners(), ownerCount)
	for _, d := range goodDeals() {
		for owner := 1; owner <= ownerCount; owner++ {
			after, had := d.drop(owner)
			wantDeal(t, after, []any{had, true}, impl.DropOwner, d.owners(), owner)
		}
		for _, owner := range badOwnerNumbers {
			wantZero(t, impl.DropOwner, d.owners(), owner)
		}
	}
	for _, o := range badOwners() {
		wantZero(t, impl.DropOwner, o, 1)
		wantZero(t, impl.DropOwner, o, ownerCount)
	}
}

// The two lists of the owners that are handed in may be one: that is good where all are nobody's, and what comes of it is two.
func TestOwnersOfOneList(t *testing.T) {
	both := make([]int, pageCount)
	o := impl.Owners{Own: both, Lent: both}
	after, _, _ := deal{}.take(2, 1)
	want(t, []any{true}, impl.GoodOwners, o)
	wantDeal(t, after, []any{0, true}, impl.TakeBlock, o, 2, 1)
	wantDeal(t, deal{}, []any{0, true}, impl.DropOwner, o, 1)
	wantZero(t, impl.FreeBlock, o, 1, 0, 0)
}
