package tests

import (
	"slices"
	"testing"

	"loop.example/g00620/impl"
)

// Told by number and not by the program's own constants.
const (
	wayCount     = 4
	lookupPlaces = 16
	allMays      = 3
)

// chart is what a table should be, kept apart from the program: by place, not by list; two of them are compared as a whole.
type chart struct {
	lists     int
	tops      [wayCount]int
	page, may [lookupPlaces]int
}

func emptyChart(lists int) chart {
	return chart{lists: lists, tops: [wayCount]int{-1, -1, -1, -1}}
}

// chartOf is a chart with lists at its tops, and leaves told by place, page and may, side by side.
func chartOf(lists int, tops [wayCount]int, numbers ...int) chart {
	c := chart{lists: lists, tops: tops}
	for k := 0; k < len(numbers); k += 3 {
		c.page[numbers[k]], c.may[numbers[k]] = numbers[k+1], numbers[k+2]
	}
	return c
}

func (c chart) table() impl.Table {
	t := impl.Table{Tops: append([]int(nil), c.tops[:]...)}
	for range c.lists {
		t.Leaves = append(t.Leaves, make([]impl.Leaf, wayCount))
	}
	for at := range lookupPlaces {
		if list := c.tops[at/wayCount]; list >= 0 {
			t.Leaves[list][at%wayCount] = impl.Leaf{Page: c.page[at], May: c.may[at]}
		}
	}
	return t
}

// sameChart says whether a table is a chart, list by list.
func sameChart(c chart, t impl.Table) bool {
	said := c.table()
	return slices.Equal(said.Tops, t.Tops) && slices.EqualFunc(said.Leaves, t.Leaves, slices.Equal[[]impl.Leaf])
}

// emptyAt says whether no place below a top may anything.
func (c chart) emptyAt(top int) bool {
	return [wayCount]int(c.may[top*wayCount:(top+1)*wayCount]) == [wayCount]int{}
}

// spare tells the first list that is at no top, or -1.
func (c chart) spare() int {
	for list := range c.lists {
		if !slices.Contains(c.tops[:], list) {
			return list
		}
	}
	return -1
}

// mapped is the chart behind MapPage; false where it may not be done.
func (c chart) mapped(at, page, may int) (chart, bool) {
	if c.may[at] != 0 {
		return chart{}, false
	}
	if c.tops[at/wayCount] == -1 {
		c.tops[at/wayCount] = c.spare()
	}
	c.page[at], c.may[at] = page, may
	return c, c.tops[at/wayCount] != -1
}

// unmapped is the chart behind UnmapPage; false where it may not be done.
func (c chart) unmapped(at int) (chart, bool) {
	had := c.may[at] != 0
	c.page[at], c.may[at] = 0, 0
	if c.emptyAt(at / wayCount) {
		c.tops[at/wayCount] = -1
	}
	return c, had
}

// protected is the chart behind ProtectPage; false where it may not be done.
func (c chart) protected(at, may int) (chart, bool) {
	had := c.may[at] != 0
	c.may[at] = may
	return c, had
}

// walked is what WalkTo should tell.
func (c chart) walked(at, may int) (int, int, bool) {
	for _, one := range []int{1, 2} {
		if has := c.may[at] == one || c.may[at] == allMays; !has && (may == one || may == allMays) {
			return 0, c.may[at], false
		}
	}
	return c.page[at], c.may[at], true
}

func (c chart) places() []int {
	var l []int
	for at, may := range c.may {
		if may != 0 {
			l = append(l, at)
		}
	}
	return l
}

func (c chart) used() int {
	many := 0
	for _, list := range c.tops {
		if list != -1 {
			many++
		}
	}
	return many
}

// fullChart has a leaf at each place below each of the first tops, as many as there are lists.
func fullChart(lists int) chart {
	c := emptyChart(lists)
	for at := range lists * wayCount {
		c.tops[at/wayCount] = lists - 1 - at/wayCount
		c.page[at], c.may[at] = lookupPlaces-1-at, 1+at%allMays
	}
	return c
}

// chartFrom chooses which lists stand where, and what is below them, more often a leaf than none where dense is set.
func chartFrom(lists int, dense bool, next func(n int) int) chart {
	c := emptyChart(lists)
	for list := range lists {
		if top := next(wayCount); next(4) > 0 && c.tops[top] == -1 {
			c.tops[top] = list
		}
	}
	for at := range lookupPlaces {
		if c.tops[at/wayCount] != -1 && (next(3) == 0) != dense {
			c.page[at], c.may[at] = next(pageCount), 1+next(allMays)
		}
	}
	for top := range wayCount {
		if c.emptyAt(top) {
			c.tops[top] = -1
		}
	}
	return c
}

// goodCharts are charts of many kinds, in which no list stands without a leaf that may.
func goodCharts() []chart {
	l := []chart{
		chartOf(4, [4]int{0, 1, 2, 3}, 0, 0, 1, 5, 5, 2, 10, 10, 3, 15, 15, 1),
		chartOf(4, [4]int{3, 2, 1, 0}, 3, 0, 3, 4, 0, 3, 11, 15, 1, 12, 15, 2),
		chartOf(4, [4]int{-1, 3, -1, 1}, 4, 7, 1, 7, 7, 2, 13, 7, 3),
		chartOf(3, [4]int{2, -1, -1, 0}, 0, 1, 1, 15, 2, 2),
		chartOf(2, [4]int{-1, 1, -1, -1}, 5, 0, 1),
		chartOf(2, [4]int{-1, -1, 1, 0}, 8, 9, 3, 9, 9, 3, 12, 9, 3),
		chartOf(1, [4]int{-1, -1, -1, 0}, 12, 0, 2, 15, 15, 1),
	}
	next := numbersFrom(66)
	for lists := 1; lists <= wayCount; lists++ {
		l = append(l, emptyChart(lists), fullChart(lists))
		for k := range 10 {
			l = append(l, chartFrom(lists, k%2 == 0, next))
		}
	}
	return l
}

// idleCharts have a list without a leaf that may at a top: none of the program's own, but the document does not rule them out.
func idleCharts() []chart {
	return []chart{
		chartOf(1, [4]int{0, -1, -1, -1}),
		chartOf(1, [4]int{-1, -1, 0, -1}),
		chartOf(2, [4]int{1, -1, -1, 0}),
		chartOf(3, [4]int{-1, 2, -1, 0}, 4, 0, 1),
		chartOf(4, [4]int{0, 1, 2, 3}, 0, 3, 3, 15, 15, 2),
		chartOf(4, [4]int{3, 2, 1, 0}),
	}
}

var (
	badLookups   = append([]int{-16, -4, -1, lookupPlaces, lookupPlaces + 1, 32, 100}, farOff...)
	badMays      = append([]int{-3, -2, -1, 0, allMays + 1, 5, 6, 7, 8, 100}, farOff...)
	badListCount = append([]int{-4, -1, 0, wayCount + 1, 8, 16, 100}, farOff...)
)

// badTables are tables that are not good, for each reason at least one that is so for it alone.
func badTables() []impl.Table {
	bad := []impl.Table{{}, {Tops: []int{}, Leaves: [][]impl.Leaf{}}, {Tops: []int{-1}, Leaves: [][]impl.Leaf{{{}}}}}
	for _, c := range []chart{emptyChart(2), fullChart(4), chartOf(3, [4]int{2, -1, -1, 0}, 0, 1, 1, 15, 2, 2)} {
		bad = append(bad, badlySized(c)...)
		bad = append(bad, badlyTopped(c)...)
		bad = append(bad, badlyLeaved(c)...)
	}
	return bad
}

// badlySized are a chart's tables with other numbers of tops, lists or leaves.
func badlySized(c chart) []impl.Table {
	var bad []impl.Table
	spoilt := func(change func(t *impl.Table)) {
		t := c.table()
		change(&t)
		bad = append(bad, t)
	}
	for _, many := range []int{0, 1, wayCount - 1} {
		spoilt(func(t *impl.Table) { t.Tops = t.Tops[:many] })
		for list := range c.lists {
			spoilt(func(t *impl.Table) { t.Leaves[list] = t.Leaves[list][:many] })
		}
	}
	for _, many := range []int{1, wayCount, 1000} {
		spoilt(func(t *impl.Table) { t.Tops = append(t.Tops, slices.Repeat([]int{-1}, many)...) })
		for list := range c.lists {
			spoilt(func(t *impl.Table) { t.Leaves[list] = append(t.Leaves[list], make([]impl.Leaf, many)...) })
		}
	}
	spoilt(func(t *impl.Table) { t.Leaves = nil })
	spoilt(func(t *impl.Table) { t.Tops, t.Leaves = []int{-1, -1, -1, -1}, nil })
	for _, many := range []int{wayCount + 1, 2 * wayCount, 100} {
		spoilt(func(t *impl.Table) {
			for len(t.Leaves) < many {
				t.Leaves = append(t.Leaves, make([]impl.Leaf, wayCount))
			}
		})
	}
	return bad
}

// badlyTopped are a chart's tables with a top of no list, a list at two tops, or one with a leaf that may at none.
func badlyTopped(c chart) []impl.Table {
	var bad []impl.Table
	for top := range wayCount {
		for _, list := range append([]int{-4, -2, c.lists, wayCount, wayCount + 1, 100}, farOff...) {
			t := c.table()
			t.Tops[top] = list
			bad = append(bad, t)
		}
		for _, list := range c.tops {
			if list != -1 && list != c.tops[top] {
				t := c.table()
				t.Tops[top] = list
				bad = append(bad, t)
			}
		}
		if c.tops[top] != -1 {
			t := c.table()
			t.Tops[top] = -1
			bad = append(bad, t)
		}
	}
	for list := range c.lists {
		for at := range wayCount {
			if !slices.Contains(c.tops[:], list) {
				t := c.table()
				t.Leaves[list][at] = impl.Leaf{Page: at, May: 1}
				bad = append(bad, t)
			}
		}
	}
	// One empty list at two tops: nothing else is wrong with it.
	return append(bad, chartOf(1, [4]int{0, 0, -1, -1}).table(), chartOf(4, [4]int{3, -1, -1, 3}).table(), chartOf(2, [4]int{1, 0, 1, -1}).table())
}

// badlyLeaved are a chart's tables with one leaf whose page or may is none, or that may nothing but has a page.
func badlyLeaved(c chart) []impl.Table {
	var bad []impl.Table
	for list := range c.lists {
		for at := range wayCount {
			spoilt := func(leaf impl.Leaf) {
				t := c.table()
				t.Leaves[list][at] = leaf
				bad = append(bad, t)
			}
			for _, page := range badPages {
				spoilt(impl.Leaf{Page: page})
				spoilt(impl.Leaf{Page: page, May: 1})
				spoilt(impl.Leaf{Page: page, May: allMays})
			}
			for _, may := range badMays {
				if may != 0 {
					spoilt(impl.Leaf{May: may})
				}
				spoilt(impl.Leaf{Page: 1, May: may})
				spoilt(impl.Leaf{Page: pageCount - 1, May: may})
			}
		}
	}
	return bad
}

// wantChart fails where f does not answer a table that is the chart, and true.
func wantChart(t *testing.T, c chart, f any, args ...any) {
	t.Helper()
	want(t, []any{c.table(), true}, f, args...)
}
