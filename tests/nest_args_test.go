package tests

import (
	"testing"

	"loop.example/g00620/impl"
)

// Promise 19, for chapter 8: every function answers at any arguments, and writes into none.

func TestGoodNest(t *testing.T) {
	for _, p := range goodPiles() {
		want(t, []any{true}, impl.GoodNest, p.nest())
	}
	for _, n := range badNests() {
		want(t, []any{false}, impl.GoodNest, n)
	}
}

// TestGoodNestLists goes through how many lists both tables have.
func TestGoodNestLists(t *testing.T) {
	for guest := 1; guest <= wayCount; guest++ {
		for host := 1; host <= wayCount; host++ {
			good := guest == wayCount && host == wayCount
			want(t, []any{good}, impl.GoodNest, pile{emptyChart(guest), fullChart(host)}.nest())
			want(t, []any{good}, impl.GoodNest, pile{fullChart(guest), emptyChart(host)}.nest())
		}
	}
}

func TestWalkNest(t *testing.T) {
	for _, p := range goodPiles() {
		for at := range lookupPlaces {
			for may := 1; may <= allMays; may++ {
				page, code := p.walked(at, may)
				want(t, []any{page, code, true}, impl.WalkNest, p.nest(), at, may)
			}
		}
	}
	for _, p := range fewPiles() {
		for at := range lookupPlaces {
			for _, may := range badMays {
				wantZero(t, impl.WalkNest, p.nest(), at, may)
			}
		}
		for _, at := range badLookups {
			for may := 1; may <= allMays; may++ {
				wantZero(t, impl.WalkNest, p.nest(), at, may)
			}
		}
	}
	for _, n := range badNests() {
		wantZero(t, impl.WalkNest, n, 0, 1)
		wantZero(t, impl.WalkNest, n, lookupPlaces-1, allMays)
	}
}

// A walk that both tables let pass, one that the host's stops, and one that the guest's does.
func TestWalkNestCodes(t *testing.T) {
	n := pileOf([]int{0, 3, 3, 1, 4, 1, 15, 15, 3, 7, 0, 2}, []int{3, 9, 1, 15, 0, 3, 0, 15, 2}).nest()
	for _, one := range []struct{ at, may, page, code int }{
		{0, 1, 9, 0}, {0, 2, 0, 2}, {0, 3, 0, 2},
		{1, 1, 0, 2}, {1, 2, 0, 1}, {1, 3, 0, 1},
		{15, 1, 0, 0}, {15, 2, 0, 0}, {15, 3, 0, 0},
		{7, 1, 0, 1}, {7, 2, 15, 0}, {7, 3, 0, 1},
		{2, 1, 0, 1}, {2, 2, 0, 1}, {2, 3, 0, 1},
		{3, 1, 0, 1}, {14, 3, 0, 1},
	} {
		want(t, []any{one.page, one.code, true}, impl.WalkNest, n, one.at, one.may)
	}
}

func TestFlatOf(t *testing.T) {
	for _, p := range goodPiles() {
		wantChart(t, p.flat(), impl.FlatOf, p.nest())
	}
	for _, n := range badNests() {
		wantZero(t, impl.FlatOf, n)
	}
	// Nothing together, the guest's less, the host's less; place 12 leads to what the host's table has not.
	n := pileOf([]int{0, 3, 1, 5, 3, 3, 6, 4, 2, 12, 9, 3}, []int{3, 15, 1, 4, 0, 3}).nest()
	wantChart(t, chartOf(wayCount, [4]int{0, 1, -1, -1}, 0, 15, 1, 5, 15, 1, 6, 0, 2), impl.FlatOf, n)
}

func TestReachedBy(t *testing.T) {
	want(t, []any{[]int{0, 9, 15}, true}, impl.ReachedBy, pileOf([]int{0, 3, 1, 5, 3, 3, 6, 4, 2, 9, 7, 3}, []int{3, 15, 1, 4, 0, 3, 7, 9, 2, 8, 1, 3}).nest())
	want(t, []any{[]int{0, 1, 2, 3, 4, 5, 6, 7, 8, 9, 10, 11, 12, 13, 14, 15}, true}, impl.ReachedBy, plainPiles()[6].nest())
	want(t, []any{[]int(nil), true}, impl.ReachedBy, pileOf([]int{0, 3, 1, 5, 4, 2}, []int{3, 15, 2, 4, 0, 1}).nest())
	for _, p := range goodPiles() {
		want(t, []any{p.reached(), true}, impl.ReachedBy, p.nest())
	}
	for _, n := range badNests() {
		wantZero(t, impl.ReachedBy, n)
	}
}

func TestWatchWrites(t *testing.T) {
	for _, p := range goodPiles() {
		for page := range pageCount {
			if after, ok := p.watched(page); ok {
				wantPile(t, after, impl.WatchWrites, p.nest(), page)
			} else {
				// Nothing is mapped there, it is watched already, or it may PmWrite alone.
				wantZero(t, impl.WatchWrites, p.nest(), page)
			}
		}
	}
	wantNoPage(t, impl.WatchWrites)
}

func TestLetWrite(t *testing.T) {
	for _, p := range goodPiles() {
		for page := range pageCount {
			if after, ok := p.letGo(page); ok {
				wantPile(t, after, impl.LetWrite, p.nest(), page)
			} else {
				// Nothing is mapped there, it may be written already, or it may PmWrite alone.
				wantZero(t, impl.LetWrite, p.nest(), page)
			}
		}
	}
	wantNoPage(t, impl.LetWrite)
}

// wantNoPage fails where f does not refuse pages that are none, and nests that are not good.
func wantNoPage(t *testing.T, f any) {
	t.Helper()
	full := pile{fullChart(wayCount), fullChart(wayCount)}
	for _, may := range []int{1, allMays} {
		for at := range lookupPlaces {
			full.host.may[at] = may
		}
		for _, p := range append(fewPiles(), full) {
			for _, page := range badPages {
				wantZero(t, f, p.nest(), page)
			}
		}
	}
	for _, n := range badNests() {
		wantZero(t, f, n, 0)
		wantZero(t, f, n, 2)
	}
}

// Each may that the page's leaf in the host's table has, at each page, with the guest's leading there or not.
func TestWatchedMays(t *testing.T) {
	for page := range pageCount {
		for _, guest := range [][]int{nil, {5, page, 3}, {page, page, 1}} {
			none := pileOf(guest, nil)
			wantZero(t, impl.WatchWrites, none.nest(), page)
			wantZero(t, impl.LetWrite, none.nest(), page)
			may := func(n int) pile { return pileOf(guest, []int{page, 9, n, (page + 1) % pageCount, 9, 3}) }
			wantZero(t, impl.WatchWrites, may(1).nest(), page)
			wantPile(t, may(3), impl.LetWrite, may(1).nest(), page)
			wantZero(t, impl.WatchWrites, may(2).nest(), page)
			wantZero(t, impl.LetWrite, may(2).nest(), page)
			wantPile(t, may(1), impl.WatchWrites, may(3).nest(), page)
			wantZero(t, impl.LetWrite, may(3).nest(), page)
		}
	}
}

func TestIsolated(t *testing.T) {
	piles := goodPiles()
	for k, p := range piles {
		for _, other := range []int{k, k + 1, k + 2, k + 5, k + 11, k + 23} {
			q := piles[other%len(piles)]
			want(t, []any{p.apart(q), true}, impl.Isolated, p.nest(), q.nest())
		}
	}
	for k, n := range badNests() {
		p := piles[k%len(piles)]
		wantZero(t, impl.Isolated, n, p.nest())
		wantZero(t, impl.Isolated, p.nest(), n)
		if k < 20 {
			wantZero(t, impl.Isolated, n, n)
		}
	}
}

// One who reaches nothing is isolated from all, also from itself; one who reaches something is not from itself.
func TestIsolatedAlone(t *testing.T) {
	nothing := pileOf([]int{0, 3, 1}, []int{3, 9, 2, 4, 1, 3}).nest()
	for _, p := range goodPiles() {
		want(t, []any{true, true}, impl.Isolated, nothing, p.nest())
		want(t, []any{true, true}, impl.Isolated, p.nest(), nothing)
		want(t, []any{len(p.reached()) == 0, true}, impl.Isolated, p.nest(), p.nest())
	}
}

// Both tables of a nest may be one in memory, and two nests too: only the host's table is another one then.
func TestNestOfOneTable(t *testing.T) {
	c := chartOf(wayCount, wideTops, 0, 3, 3, 3, 9, 3, 9, 0, 1)
	table := c.table()
	n := impl.Nest{Guest: table, Host: table}
	after, _ := pile{c, c}.watched(3)
	wantPile(t, after, impl.WatchWrites, n, 3)
	after, _ = pile{c, c}.letGo(9)
	wantPile(t, after, impl.LetWrite, n, 9)
	want(t, []any{9, 0, true}, impl.WalkNest, n, 0, 3)
	want(t, []any{false, true}, impl.Isolated, n, n)
	if tell(table) != tell(c.table()) {
		t.Fatal(table)
	}
}
