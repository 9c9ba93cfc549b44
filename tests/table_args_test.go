package tests

import (
	"testing"

	"loop.example/g00620/impl"
)

// Promise 19, for chapter 6: every function answers at any arguments, and writes into none.

// anyCharts are all charts that are good, also those with a list at a top that has no leaf that may.
func anyCharts() []chart {
	return append(goodCharts(), idleCharts()...)
}

func TestNewTable(t *testing.T) {
	for lists := 1; lists <= wayCount; lists++ {
		wantChart(t, emptyChart(lists), impl.NewTable, lists)
		// What one call gave out is not what the next one gives.
		table, _ := impl.NewTable(lists)
		table.Tops[1], table.Leaves[lists-1][3] = 0, impl.Leaf{Page: 5, May: 1}
		wantChart(t, emptyChart(lists), impl.NewTable, lists)
	}
	for _, lists := range badListCount {
		wantZero(t, impl.NewTable, lists)
	}
}

func TestGoodTable(t *testing.T) {
	for _, c := range anyCharts() {
		want(t, []any{true}, impl.GoodTable, c.table())
	}
	for _, table := range badTables() {
		want(t, []any{false}, impl.GoodTable, table)
	}
}

// TestGoodTops goes through all tops of two lists: one without leaves and one with.
func TestGoodTops(t *testing.T) {
	for k := range 5 * 5 * 5 * 5 {
		tops := []int{k%5 - 2, k/5%5 - 2, k/25%5 - 2, k/125 - 2}
		var at [2]int
		good := true
		for _, list := range tops {
			if list == 0 || list == 1 {
				at[list]++
			} else if list != -1 {
				good = false
			}
		}
		for _, leaf := range []impl.Leaf{{}, {May: 1}, {Page: 15, May: 3}} {
			table := impl.Table{Tops: tops, Leaves: [][]impl.Leaf{make([]impl.Leaf, 4), {{}, {}, {}, leaf}}}
			said := good && at[0] < 2 && at[1] < 2 && (at[1] == 1 || leaf.May == 0)
			want(t, []any{said}, impl.GoodTable, table)
		}
	}
}

func TestGoodLeaf(t *testing.T) {
	for at := range wayCount {
		for page := -2; page < 19; page++ {
			for may := -2; may < 9; may++ {
				table := chartOf(2, [4]int{-1, 1, 0, -1}, 4+at, 3, 2, 8, 1, 1).table()
				table.Leaves[1][at] = impl.Leaf{Page: page, May: may}
				good := page == 0 && may == 0 || page >= 0 && page <= 15 && may >= 1 && may <= 3
				want(t, []any{good}, impl.GoodTable, table)
			}
		}
	}
}

func TestMapPage(t *testing.T) {
	for _, c := range anyCharts() {
		for at := range lookupPlaces {
			for _, page := range []int{0, 1, pageCount - 1} {
				for may := 1; may <= allMays; may++ {
					if after, ok := c.mapped(at, page, may); ok {
						wantChart(t, after, impl.MapPage, c.table(), at, page, may)
					} else {
						// Mapped already, or no list is left.
						wantZero(t, impl.MapPage, c.table(), at, page, may)
					}
				}
			}
		}
	}
}

func TestMapPageWrong(t *testing.T) {
	for _, c := range []chart{emptyChart(1), emptyChart(4), fullChart(4), chartOf(3, [4]int{2, -1, -1, 0}, 0, 1, 1, 15, 2, 2)} {
		for _, at := range badLookups {
			wantZero(t, impl.MapPage, c.table(), at, 0, 1)
			wantZero(t, impl.MapPage, c.table(), at, pageCount-1, allMays)
		}
		for _, at := range []int{0, 1, 5, lookupPlaces - 1} {
			for _, page := range badPages {
				wantZero(t, impl.MapPage, c.table(), at, page, 1)
				wantZero(t, impl.MapPage, c.table(), at, page, allMays)
			}
			for _, may := range badMays {
				wantZero(t, impl.MapPage, c.table(), at, 0, may)
				wantZero(t, impl.MapPage, c.table(), at, pageCount-1, may)
			}
		}
	}
	for _, table := range badTables() {
		wantZero(t, impl.MapPage, table, 1, 0, 1)
		wantZero(t, impl.MapPage, table, 14, pageCount-1, allMays)
	}
}

func TestUnmapPage(t *testing.T) {
	for _, c := range anyCharts() {
		for at := range lookupPlaces {
			if after, ok := c.unmapped(at); ok {
				wantChart(t, after, impl.UnmapPage, c.table(), at)
			} else {
				wantZero(t, impl.UnmapPage, c.table(), at)
			}
		}
		for _, at := range badLookups {
			wantZero(t, impl.UnmapPage, c.table(), at)
		}
	}
	for _, table := range badTables() {
		wantZero(t, impl.UnmapPage, table, 0)
		wantZero(t, impl.UnmapPage, table, 15)
	}
}

func TestWalkTo(t *testing.T) {
	for _, c := range anyCharts() {
		for at := range lookupPlaces {
			for may := 1; may <= allMays; may++ {
				page, has, ok := c.walked(at, may)
				want(t, []any{page, has, ok}, impl.WalkTo, c.table(), at, may)
			}
			for _, may := range badMays {
				wantZero(t, impl.WalkTo, c.table(), at, may)
			}
		}
		for _, at := range badLookups {
			wantZero(t, impl.WalkTo, c.table(), at, 1)
			wantZero(t, impl.WalkTo, c.table(), at, allMays)
		}
	}
	for _, table := range badTables() {
		wantZero(t, impl.WalkTo, table, 0, 1)
		wantZero(t, impl.WalkTo, table, 15, 2)
	}
}

// Each may that a leaf has, and each that one asks for.
func TestWalkToMays(t *testing.T) {
	for _, one := range []struct {
		has, asked int
		ok         bool
	}{
		{0, 1, false}, {0, 2, false}, {0, 3, false},
		{1, 1, true}, {1, 2, false}, {1, 3, false},
		{2, 1, false}, {2, 2, true}, {2, 3, false},
		{3, 1, true}, {3, 2, true}, {3, 3, true},
	} {
		c := chartOf(2, [4]int{-1, -1, 1, -1}, 8, 4, 1)
		page := 0
		if one.has != 0 {
			c.page[9], c.may[9] = 13, one.has
		}
		if one.ok {
			page = 13
		}
		want(t, []any{page, one.has, one.ok}, impl.WalkTo, c.table(), 9, one.asked)
	}
}

func TestMappedIn(t *testing.T) {
	want(t, []any{[]int{0, 5, 15}, true}, impl.MappedIn, chartOf(3, [4]int{2, 1, -1, 0}, 0, 0, 1, 5, 0, 2, 15, 15, 3).table())
	want(t, []any{[]int{0, 1, 2, 3, 4, 5, 6, 7, 8, 9, 10, 11, 12, 13, 14, 15}, true}, impl.MappedIn, fullChart(4).table())
	want(t, []any{[]int(nil), true}, impl.MappedIn, emptyChart(1).table())
	for _, c := range anyCharts() {
		want(t, []any{c.places(), true}, impl.MappedIn, c.table())
	}
	for _, table := range badTables() {
		wantZero(t, impl.MappedIn, table)
	}
}

func TestProtectPage(t *testing.T) {
	for _, c := range anyCharts() {
		for at := range lookupPlaces {
			for may := 1; may <= allMays; may++ {
				if after, ok := c.protected(at, may); ok {
					// Also with what it may already: nothing changes then.
					wantChart(t, after, impl.ProtectPage, c.table(), at, may)
				} else {
					wantZero(t, impl.ProtectPage, c.table(), at, may)
				}
			}
			for _, may := range badMays {
				wantZero(t, impl.ProtectPage, c.table(), at, may)
			}
		}
		for _, at := range badLookups {
			wantZero(t, impl.ProtectPage, c.table(), at, 1)
			wantZero(t, impl.ProtectPage, c.table(), at, allMays)
		}
	}
	for _, table := range badTables() {
		wantZero(t, impl.ProtectPage, table, 0, 1)
		wantZero(t, impl.ProtectPage, table, 15, allMays)
	}
}

func TestUsedTables(t *testing.T) {
	want(t, []any{0, true}, impl.UsedTables, emptyChart(4).table())
	want(t, []any{1, true}, impl.UsedTables, fullChart(1).table())
	want(t, []any{4, true}, impl.UsedTables, fullChart(4).table())
	want(t, []any{2, true}, impl.UsedTables, chartOf(3, [4]int{2, -1, -1, 0}, 0, 1, 1, 15, 2, 2).table())
	for _, c := range anyCharts() {
		want(t, []any{c.used(), true}, impl.UsedTables, c.table())
	}
	for _, table := range badTables() {
		wantZero(t, impl.UsedTables, table)
	}
}

// The lists of a table that is handed in may be one list: that is good where it has no leaves, and what comes of it is several.
func TestTableOfOneList(t *testing.T) {
	one := make([]impl.Leaf, wayCount)
	table := impl.Table{Tops: []int{-1, -1, -1, -1}, Leaves: [][]impl.Leaf{one, one, one}}
	said, _ := emptyChart(3).mapped(6, 5, 2)
	want(t, []any{true}, impl.GoodTable, table)
	wantChart(t, said, impl.MapPage, table, 6, 5, 2)
	wantZero(t, impl.UnmapPage, table, 6)
	wantZero(t, impl.ProtectPage, table, 6, 1)
}
