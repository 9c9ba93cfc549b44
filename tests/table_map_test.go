package tests

import (
	"slices"
	"testing"

	"loop.example/g00620/impl"
)

// Promise 6: a page that is mapped is found, with just what it may, and no other place changes.

// seenAt is what WalkTo tells of a place, for each may that one asks for.
type seenAt [allMays]struct {
	page, may int
	ok        bool
}

func seenIn(t *testing.T, table impl.Table) (seen [lookupPlaces]seenAt) {
	t.Helper()
	for at := range seen {
		for k := range allMays {
			one := &seen[at][k]
			one.page, one.may, one.ok = impl.WalkTo(table, at, k+1)
		}
	}
	return seen
}

// leafSeen is what WalkTo should tell of a leaf, told apart by bits.
func leafSeen(page, may int) (seen seenAt) {
	for k := range allMays {
		seen[k].may = may
		if asked := k + 1; asked&^may == 0 {
			seen[k].page, seen[k].ok = page, true
		}
	}
	return seen
}

// wantKept fails where the table is not good, where another place tells something else than it did, or where a list
// stands without a leaf that may, or not where it should.
func wantKept(t *testing.T, before chart, after impl.Table, at int, leaf seenAt) {
	t.Helper()
	if !impl.GoodTable(after) {
		t.Fatalf("%v: behind a change at %d no good table: %v", before, at, after)
	}
	was, is := seenIn(t, before.table()), seenIn(t, after)
	was[at] = leaf
	if was != is {
		t.Fatalf("%v: behind a change at %d the places tell %v, not %v", before, at, is, was)
	}
	var mapped []int
	used := 0
	for k := range lookupPlaces {
		if is[k][0].may != 0 {
			mapped = append(mapped, k)
		}
	}
	for top, list := range after.Tops {
		has := slices.ContainsFunc(mapped, func(k int) bool { return k/wayCount == top })
		if has != (list != -1) {
			t.Fatalf("%v: behind a change at %d list %d stands at top %d, where %v may something", before, at, list, top, mapped)
		}
		if has {
			used++
		}
		if top != at/wayCount && list != before.tops[top] {
			t.Fatalf("%v: behind a change at %d top %d has list %d", before, at, top, list)
		}
	}
	if l, ok := impl.MappedIn(after); !ok || !slices.Equal(l, mapped) {
		t.Fatalf("%v: behind a change at %d: mapped in %v, %v, not %v", before, at, l, ok, mapped)
	}
	if n, ok := impl.UsedTables(after); !ok || n != used {
		t.Fatalf("%v: behind a change at %d: %d used, %v, not %d", before, at, n, ok, used)
	}
}

// TestMappedIsFound maps each page with each may at each place.
func TestMappedIsFound(t *testing.T) {
	for _, c := range goodCharts() {
		for at := range lookupPlaces {
			if c.may[at] != 0 {
				continue
			}
			for page := range pageCount {
				for may := 1; may <= allMays; may++ {
					wantMapped(t, c, at, page, may)
				}
			}
		}
	}
}

func wantMapped(t *testing.T, c chart, at, page, may int) {
	t.Helper()
	after, ok := impl.MapPage(c.table(), at, page, may)
	top, spare := at/wayCount, c.spare()
	if ok != (c.tops[top] != -1 || spare != -1) {
		t.Fatalf("%v: page %d mapped at %d: %v", c, page, at, ok)
	}
	if !ok {
		return
	}
	wantKept(t, c, after, at, leafSeen(page, may))
	if list := after.Tops[top]; c.tops[top] == -1 && list != spare || c.tops[top] != -1 && list != c.tops[top] {
		t.Fatalf("%v: page %d mapped at %d: list %d stands there", c, page, at, list)
	}
	back, ok := impl.UnmapPage(after, at)
	if !ok || !sameChart(c, back) {
		t.Fatalf("%v: page %d mapped at %d and not any more: %v, %v", c, page, at, back, ok)
	}
}

// Behind UnmapPage the place may nothing, and the list stands there while it has another leaf that may.
func TestUnmappedIsGone(t *testing.T) {
	for _, c := range goodCharts() {
		for _, at := range c.places() {
			after, ok := impl.UnmapPage(c.table(), at)
			if !ok {
				t.Fatalf("%v: %d is not unmapped", c, at)
			}
			wantKept(t, c, after, at, leafSeen(0, 0))
			if _, ok := impl.UnmapPage(after, at); ok {
				t.Fatalf("%v: %d is unmapped twice", c, at)
			}
		}
	}
}

// Behind ProtectPage the page is the same, and just what it may is other.
func TestProtectedMayOther(t *testing.T) {
	for _, c := range goodCharts() {
		for _, at := range c.places() {
			for may := 1; may <= allMays; may++ {
				after, ok := impl.ProtectPage(c.table(), at, may)
				if !ok || !slices.Equal(after.Tops, c.tops[:]) {
					t.Fatalf("%v: %d with %d: %v, %v", c, at, may, after, ok)
				}
				wantKept(t, c, after, at, leafSeen(c.page[at], may))
				if back, ok := impl.ProtectPage(after, at, c.may[at]); !ok || !sameChart(c, back) {
					t.Fatalf("%v: %d with %d and as it was: %v, %v", c, at, may, back, ok)
				}
			}
		}
	}
}

// The first list at no top is taken, wherever it is, and none where all stand.
func TestFirstListIsTaken(t *testing.T) {
	for _, one := range []struct {
		c    chart
		list []int // for each top that has none, the list it gets; -2 for none left
	}{
		{emptyChart(1), []int{0, 0, 0, 0}},
		{emptyChart(4), []int{0, 0, 0, 0}},
		{fullChart(1), []int{0, -2, -2, -2}},
		{fullChart(3), []int{2, 1, 0, -2}},
		{chartOf(4, [4]int{-1, 0, -1, -1}, 4, 1, 1), []int{1, 0, 1, 1}},
		{chartOf(4, [4]int{1, -1, 0, -1}, 0, 1, 1, 8, 1, 1), []int{1, 2, 0, 2}},
		{chartOf(4, [4]int{3, 1, 0, -1}, 3, 1, 1, 7, 1, 1, 11, 1, 1), []int{3, 1, 0, 2}},
		{chartOf(3, [4]int{-1, 2, 1, -1}, 6, 1, 1, 9, 1, 1), []int{0, 2, 1, 0}},
		{chartOf(2, [4]int{-1, 1, -1, -1}, 6, 1, 1), []int{0, 1, 0, 0}},
		{chartOf(2, [4]int{-1, 1, 0, -1}, 6, 1, 1, 9, 1, 1), []int{-2, 1, 0, -2}},
	} {
		for top, list := range one.list {
			at := slices.Index(one.c.may[top*wayCount:(top+1)*wayCount], 0)
			if at < 0 {
				continue
			}
			after, ok := impl.MapPage(one.c.table(), top*wayCount+at, 3, 3)
			if ok != (list != -2) || ok && after.Tops[top] != list {
				t.Errorf("%v: at top %d: %v, %v, not %d", one.c, top, after.Tops, ok, list)
			}
		}
	}
}

// A list that went from one top may stand at another: what was in it is not found there.
func TestListsGoOnElsewhere(t *testing.T) {
	for at := range lookupPlaces {
		for other := range lookupPlaces {
			table, _ := impl.NewTable(1)
			table, _ = impl.MapPage(table, at, 7, 3)
			if other/wayCount == at/wayCount {
				continue
			}
			if _, ok := impl.MapPage(table, other, 9, 1); ok {
				t.Fatalf("one list stands at %d and %d", at/wayCount, other/wayCount)
			}
			table, _ = impl.UnmapPage(table, at)
			wantKept(t, emptyChart(1), table, at, leafSeen(0, 0))
			table, ok := impl.MapPage(table, other, 9, 1)
			if !ok {
				t.Fatalf("no list for %d behind %d", other, at)
			}
			wantKept(t, emptyChart(1), table, other, leafSeen(9, 1))
		}
	}
}

// TestTablesBehindTables plays many steps one behind the other, good ones and others, and then unmaps all.
func TestTablesBehindTables(t *testing.T) {
	for lists := 1; lists <= wayCount; lists++ {
		next := numbersFrom(uint64(lists))
		c := emptyChart(lists)
		table, _ := impl.NewTable(lists)
		for range 6000 {
			after, got, ok, told := playTable(c, table, next)
			if told != ok || ok && !sameChart(after, got) || !ok && (got.Tops != nil || got.Leaves != nil) {
				t.Fatalf("%v: %v, %v, not %v, %v", c, got, told, after, ok)
			}
			if ok {
				c, table = after, got
			}
		}
		for _, at := range c.places() {
			table, _ = impl.UnmapPage(table, at)
		}
		if !sameChart(emptyChart(lists), table) {
			t.Fatal(table)
		}
	}
}

// playTable does one step by the program and apart from it; ok tells whether it may be done, told what the program said.
func playTable(c chart, table impl.Table, next func(n int) int) (after chart, got impl.Table, ok, told bool) {
	at, page, may := next(lookupPlaces), next(pageCount), 1+next(allMays)
	switch next(5) {
	case 0, 1:
		after, ok = c.mapped(at, page, may)
		got, told = impl.MapPage(table, at, page, may)
	case 2, 3:
		after, ok = c.unmapped(at)
		got, told = impl.UnmapPage(table, at)
	case 4:
		after, ok = c.protected(at, may)
		got, told = impl.ProtectPage(table, at, may)
	}
	return after, got, ok, told
}
