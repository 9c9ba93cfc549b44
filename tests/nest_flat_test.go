package tests

import (
	"slices"
	"testing"

	"loop.example/g00620/impl"
)

// Promise 8: two tables one behind the other are one flat table.

// nestSeen is what WalkNest tells of each place, for each may that one asks for.
type nestSeen [lookupPlaces][allMays]struct {
	page, code int
}

func seenInNest(t *testing.T, n impl.Nest) (seen nestSeen) {
	t.Helper()
	for at := range seen {
		for k := range allMays {
			var ok bool
			if seen[at][k].page, seen[at][k].code, ok = impl.WalkNest(n, at, k+1); !ok {
				t.Fatalf("%v: no walk to %d with %d", n, at, k+1)
			}
		}
	}
	return seen
}

// wantOneTable fails where the nest's walks are not those in its two tables, one behind the other, where its flat table
// tells other than they do, or where other pages are reached than they tell. It answers what they tell.
func wantOneTable(t *testing.T, n impl.Nest) nestSeen {
	t.Helper()
	if !impl.GoodNest(n) {
		t.Fatalf("no good nest: %v", n)
	}
	seen := seenInNest(t, n)
	flat, ok := impl.FlatOf(n)
	if !ok || !impl.GoodTable(flat) || len(flat.Leaves) != wayCount {
		t.Fatalf("%v: no good flat table: %v, %v", n, flat, ok)
	}
	var told [pageCount]bool
	for at := range lookupPlaces {
		for k, is := range seen[at] {
			page, code := twoWalks(n, at, k+1)
			if is.page != page || is.code != code {
				t.Fatalf("%v: at %d with %d: %v, not %d and code %d", n, at, k+1, is, page, code)
			}
			if one, _, found := impl.WalkTo(flat, at, k+1); found != (code == 0) || one != page {
				t.Fatalf("%v: at %d with %d the flat table tells %d, %v, not %d", n, at, k+1, one, found, page)
			}
			if code == 0 {
				told[page] = true
			}
		}
	}
	wantReached(t, n, told)
	return seen
}

// twoWalks walks in the guest's table, then in the host's: the page and the code.
func twoWalks(n impl.Nest, at, may int) (int, int) {
	own, _, ok := impl.WalkTo(n.Guest, at, may)
	if !ok {
		return 0, 1
	}
	if page, _, ok := impl.WalkTo(n.Host, own, may); ok {
		return page, 0
	}
	return 0, 2
}

func wantReached(t *testing.T, n impl.Nest, told [pageCount]bool) {
	t.Helper()
	var pages []int
	for page, is := range told {
		if is {
			pages = append(pages, page)
		}
	}
	if l, ok := impl.ReachedBy(n); !ok || !slices.Equal(l, pages) {
		t.Fatalf("%v: reached are %v, %v, not %v", n, l, ok, pages)
	}
}

func TestNestIsOneTable(t *testing.T) {
	for _, p := range goodPiles() {
		wantOneTable(t, p.nest())
	}
}

// TestNestMays tells for each may that the guest's leaf has, and the host's, which codes the three mays tell, and what
// the flat leaf may.
func TestNestMays(t *testing.T) {
	for _, one := range []struct {
		guest, host int
		codes       [allMays]int
		flat        int
	}{
		{0, 0, [allMays]int{1, 1, 1}, 0}, {0, 1, [allMays]int{1, 1, 1}, 0}, {0, 2, [allMays]int{1, 1, 1}, 0}, {0, 3, [allMays]int{1, 1, 1}, 0},
		{1, 0, [allMays]int{2, 1, 1}, 0}, {1, 1, [allMays]int{0, 1, 1}, 1}, {1, 2, [allMays]int{2, 1, 1}, 0}, {1, 3, [allMays]int{0, 1, 1}, 1},
		{2, 0, [allMays]int{1, 2, 1}, 0}, {2, 1, [allMays]int{1, 2, 1}, 0}, {2, 2, [allMays]int{1, 0, 1}, 2}, {2, 3, [allMays]int{1, 0, 1}, 2},
		{3, 0, [allMays]int{2, 2, 2}, 0}, {3, 1, [allMays]int{0, 2, 2}, 1}, {3, 2, [allMays]int{2, 0, 2}, 2}, {3, 3, [allMays]int{0, 0, 0}, 3},
	} {
		for at := range lookupPlaces {
			for page := range pageCount {
				real := (at*7 + page*5 + 1) % pageCount
				n := leafPile(at, page, real, one.guest, one.host).nest()
				seen := wantOneTable(t, n)
				for k, code := range one.codes {
					if seen[at][k].code != code || code == 0 && seen[at][k].page != real {
						t.Fatalf("%v: at %d with %d: %v, not code %d", one, at, k+1, seen[at][k], code)
					}
				}
				flat, _ := impl.FlatOf(n)
				wantFlatLeaf(t, flat, at, real, one.flat)
			}
		}
	}
}

// wantFlatLeaf fails where a table has not just one leaf, that page with that may at the place, or none where it may nothing.
func wantFlatLeaf(t *testing.T, flat impl.Table, at, page, may int) {
	t.Helper()
	c := emptyChart(wayCount)
	if may != 0 {
		c, _ = c.mapped(at, page, may)
	}
	if !sameChart(c, flat) {
		t.Fatalf("at %d with %d: %v, not %v", at, may, flat, c.table())
	}
}

// Lists stand in the flat table as places come, from 0 on, not as they stand in the guest's.
func TestFlatIsMappedPlaceByPlace(t *testing.T) {
	for _, one := range []struct {
		guest, host []int
		tops        []int
	}{
		{nil, nil, []int{-1, -1, -1, -1}},
		{[]int{0, 1, 3, 5, 1, 3, 9, 1, 3, 13, 1, 3}, []int{1, 0, 3}, []int{0, 1, 2, 3}},
		{[]int{15, 1, 3, 2, 1, 3}, []int{1, 0, 3}, []int{0, -1, -1, 1}},
		{[]int{15, 1, 3, 2, 2, 3, 8, 1, 1}, []int{1, 0, 3}, []int{-1, -1, 0, 1}},
		{[]int{4, 1, 1, 2, 1, 2, 8, 1, 1}, []int{1, 0, 1}, []int{-1, 0, 1, -1}},
		{[]int{4, 1, 1, 2, 1, 2, 8, 1, 1}, []int{1, 0, 2}, []int{0, -1, -1, -1}},
	} {
		flat, ok := impl.FlatOf(pileOf(one.guest, one.host).nest())
		if !ok || !slices.Equal(flat.Tops, one.tops) {
			t.Errorf("%v, %v: %v, %v, not %v", one.guest, one.host, flat.Tops, ok, one.tops)
		}
	}
}

// A write to a page that is watched is told with code 2, a read is as it was, and no other page's walks change.
func TestWatchedWritesAreTold(t *testing.T) {
	for _, p := range goodPiles() {
		before := wantOneTable(t, p.nest())
		for page := range pageCount {
			watched, ok := impl.WatchWrites(p.nest(), page)
			if ok != (p.host.may[page] == allMays) {
				t.Fatalf("%v: page %d is watched: %v", p, page, ok)
			}
			if ok {
				wantWatched(t, p, page, before, watched)
			}
		}
	}
}

func wantWatched(t *testing.T, p pile, page int, before nestSeen, watched impl.Nest) {
	t.Helper()
	behind := wantOneTable(t, watched)
	for at := range lookupPlaces {
		for k, was := range before[at] {
			is, write := behind[at][k], k != 0
			if own, _, ok := p.guest.walked(at, k+1); ok && own == page && write {
				if is.code != 2 || is.page != 0 || was.code != 0 {
					t.Fatalf("%v: behind a watch of %d a write at %d tells %v; ahead of it %v", p, page, at, is, was)
				}
			} else if is != was {
				t.Fatalf("%v: behind a watch of %d at %d with %d: %v, not %v", p, page, at, k+1, is, was)
			}
		}
	}
	if again, ok := impl.WatchWrites(watched, page); ok || tell(again) != tell(impl.Nest{}) {
		t.Fatalf("%v: page %d is watched twice", p, page)
	}
	if back, ok := impl.LetWrite(watched, page); !ok || !samePile(p, back) {
		t.Fatalf("%v: behind a watch of %d and LetWrite: %v, %v", p, page, back, ok)
	}
}

// What the guest may read alone may be written behind LetWrite where its own table lets it.
func TestLetWritesAreDone(t *testing.T) {
	for _, p := range goodPiles() {
		for page := range pageCount {
			after, ok := impl.LetWrite(p.nest(), page)
			if ok != (p.host.may[page] == 1) {
				t.Fatalf("%v: page %d may be written: %v", p, page, ok)
			}
			if !ok {
				continue
			}
			wantOneTable(t, after)
			for at := range lookupPlaces {
				if own, _, ok := p.guest.walked(at, 2); ok && own == page {
					if real, code, _ := impl.WalkNest(after, at, 2); code != 0 || real != p.host.page[page] {
						t.Fatalf("%v: behind LetWrite of %d a write at %d: %d, code %d", p, page, at, real, code)
					}
				}
			}
			if back, ok := impl.WatchWrites(after, page); !ok || !samePile(p, back) {
				t.Fatalf("%v: behind LetWrite of %d and a watch: %v, %v", p, page, back, ok)
			}
		}
	}
}

// All pages that may be watched are, one behind the other, and let go in another order.
func TestWatchesGoBack(t *testing.T) {
	for _, p := range goodPiles() {
		n := p.nest()
		for page := range pageCount {
			if after, ok := impl.WatchWrites(n, page); ok {
				n = after
			}
		}
		for at, row := range wantOneTable(t, n) {
			if own, may, ok := p.guest.walked(at, 2); ok && p.host.may[own] == allMays {
				if row[1].code != 2 || may == allMays && row[2].code != 2 {
					t.Fatalf("%v: all pages are watched; at %d: %v", p, at, row)
				}
			}
		}
		for k := range pageCount {
			page := (4 + 3*k) % pageCount
			if p.host.may[page] == allMays {
				n, _ = impl.LetWrite(n, page)
			}
		}
		if !samePile(p, n) {
			t.Fatalf("%v: behind watches and LetWrites: %v", p, n)
		}
	}
}

// toldPages are the pages that some walk tells, each as many times as it is told.
func toldPages(t *testing.T, n impl.Nest) []int {
	t.Helper()
	var l []int
	for _, row := range seenInNest(t, n) {
		for _, is := range row {
			if is.code == 0 {
				l = append(l, is.page)
			}
		}
	}
	return l
}

// Two nests are isolated just where no page is reached by both.
func TestIsolatedReachNoneInCommon(t *testing.T) {
	var nests []impl.Nest
	var told [][]int
	for _, p := range goodPiles() {
		nests = append(nests, p.nest())
		told = append(told, toldPages(t, p.nest()))
	}
	var many [2]int
	for k, one := range told {
		for other, pages := range told {
			apart := !slices.ContainsFunc(one, func(page int) bool { return slices.Contains(pages, page) })
			if is, ok := impl.Isolated(nests[k], nests[other]); is != apart || !ok {
				t.Fatalf("%v and %v: %v, %v, not %v", nests[k], nests[other], is, ok, apart)
			}
			if apart {
				many[0]++
			} else {
				many[1]++
			}
		}
	}
	if many[0] < 100 || many[1] < 100 {
		t.Fatalf("too few of a kind: %v", many)
	}
}

// Two guests with one page each are isolated just where these are not one real page; a page that nothing leads to is none.
func TestIsolatedPageByPage(t *testing.T) {
	for a := range pageCount {
		for b := range pageCount {
			one := pileOf([]int{3, 4, 3}, []int{4, a, 1, 5, b, 3})
			other := pileOf([]int{12, 5, 1}, []int{5, b, 3, 4, a, 3})
			if is, ok := impl.Isolated(one.nest(), other.nest()); is != (a != b) || !ok {
				t.Fatalf("pages %d and %d: %v, %v", a, b, is, ok)
			}
		}
	}
}

// A guest that changes its own table reaches no page that the host's has not.
func TestGuestReachesNoMore(t *testing.T) {
	next := numbersFrom(88)
	for _, p := range goodPiles() {
		n := p.nest()
		for range 40 {
			if after, got, ok, _ := playTable(p.guest, n.Guest, next); ok {
				p.guest, n.Guest = after, got
			}
		}
		wantOneTable(t, n)
		for _, page := range toldPages(t, n) {
			if !slices.ContainsFunc(p.host.places(), func(own int) bool { return p.host.page[own] == page }) {
				t.Fatalf("%v: page %d is reached", p, page)
			}
		}
	}
}

// TestNestsBehindNests plays many steps one behind the other: changes of both tables, watches and their ends.
func TestNestsBehindNests(t *testing.T) {
	next := numbersFrom(8)
	p := pile{emptyChart(wayCount), emptyChart(wayCount)}
	n := p.nest()
	for range 6000 {
		after, got, ok, told := playNest(p, n, next)
		if told != ok || ok && !samePile(after, got) {
			t.Fatalf("%v: %v, %v, not %v, %v", p, got, told, after, ok)
		}
		if ok {
			p, n = after, got
			wantOneTable(t, n)
		}
	}
}

// playNest does one step by the program and apart from it; ok tells whether it may be done, told what the program said.
func playNest(p pile, n impl.Nest, next func(n int) int) (after pile, got impl.Nest, ok, told bool) {
	after, got = p, n
	page := next(pageCount)
	switch next(4) {
	case 0:
		after.guest, got.Guest, ok, told = playTable(p.guest, n.Guest, next)
	case 1:
		after.host, got.Host, ok, told = playTable(p.host, n.Host, next)
	case 2:
		after, ok = p.watched(page)
		got, told = impl.WatchWrites(n, page)
	case 3:
		after, ok = p.letGo(page)
		got, told = impl.LetWrite(n, page)
	}
	return after, got, ok, told
}
