package tests

import (
	"slices"
	"testing"

	"loop.example/g00620/impl"
)

// pile is what a nest should be, kept apart from the program: two charts; two of them are compared as a whole.
type pile struct {
	guest, host chart
}

func (p pile) nest() impl.Nest {
	return impl.Nest{Guest: p.guest.table(), Host: p.host.table()}
}

// wideTops has a list at each top.
var wideTops = [wayCount]int{2, 0, 3, 1}

// pileOf has each list at a top, a guest's leaves and a host's, each told by place, page and may, side by side.
func pileOf(guest, host []int) pile {
	return pile{chartOf(wayCount, wideTops, guest...), chartOf(wayCount, wideTops, host...)}
}

// samePile says whether a nest is a pile, table by table.
func samePile(p pile, n impl.Nest) bool {
	return sameChart(p.guest, n.Guest) && sameChart(p.host, n.Host)
}

// walked is what WalkNest should tell: the page and the code.
func (p pile) walked(at, may int) (int, int) {
	own, _, ok := p.guest.walked(at, may)
	if !ok {
		return 0, 1
	}
	page, _, ok := p.host.walked(own, may)
	if !ok {
		return 0, 2
	}
	return page, 0
}

// flat is what FlatOf should be, worked out from the walks alone: of each place what all its walks together tell.
func (p pile) flat() chart {
	c := emptyChart(wayCount)
	for at := range lookupPlaces {
		page, may := 0, 0
		for one := 1; one <= 2; one++ {
			if got, code := p.walked(at, one); code == 0 {
				page, may = got, may+one
			}
		}
		if may != 0 {
			c, _ = c.mapped(at, page, may)
		}
	}
	return c
}

// reached is what ReachedBy should tell.
func (p pile) reached() []int {
	var l []int
	for page := range pageCount {
		for at := range lookupPlaces {
			for may := 1; may <= allMays; may++ {
				if got, code := p.walked(at, may); code == 0 && got == page && !slices.Contains(l, page) {
					l = append(l, page)
				}
			}
		}
	}
	return l
}

// apart is what Isolated should tell.
func (p pile) apart(other pile) bool {
	theirs := other.reached()
	return !slices.ContainsFunc(p.reached(), func(page int) bool { return slices.Contains(theirs, page) })
}

// watched is the pile behind WatchWrites; false where it may not be done.
func (p pile) watched(page int) (pile, bool) {
	was := p.host.may[page]
	p.host.may[page] = 1
	return p, was == allMays
}

// letGo is the pile behind LetWrite; false where it may not be done.
func (p pile) letGo(page int) (pile, bool) {
	was := p.host.may[page]
	p.host.may[page] = allMays
	return p, was == 1
}

// wideCharts are charts that may stand in a nest: those with as many lists as tops.
func wideCharts() []chart {
	return slices.DeleteFunc(anyCharts(), func(c chart) bool { return c.lists != wayCount })
}

// plainPiles are told one by one, each for something that it has.
func plainPiles() []pile {
	same := make([]int, 0, 3*lookupPlaces)
	turned := make([]int, 0, 3*lookupPlaces)
	for at := range lookupPlaces {
		same = append(same, at, at, allMays)
		turned = append(turned, at, pageCount-1-at, 1+at%allMays)
	}
	return []pile{
		// Nothing is mapped, in one table or in both, all lists at a top or none.
		{emptyChart(wayCount), emptyChart(wayCount)},
		{emptyChart(wayCount), fullChart(wayCount)},
		{fullChart(wayCount), emptyChart(wayCount)},
		pileOf(nil, nil),
		pileOf(same, nil),
		pileOf(nil, same),
		// All is mapped: to itself, to the last one first, and by both.
		pileOf(same, same),
		pileOf(same, turned),
		pileOf(turned, same),
		pileOf(turned, turned),
		// Only the guest's table has the place, only the host's has the page, neither has, both have.
		pileOf([]int{0, 3, 3, 6, 9, 3}, []int{4, 5, 3, 15, 9, 3}),
		pileOf([]int{4, 4, 1, 15, 15, 2}, []int{0, 7, 1, 3, 8, 2}),
		// Page 0 of the guest is real to the host: a place that may nothing still leads nowhere.
		pileOf([]int{5, 5, 3}, []int{0, 11, 3}),
		pileOf([]int{5, 0, 3}, []int{0, 0, 3}),
		pileOf([]int{15, 15, 3}, []int{15, 15, 3}),
		pileOf([]int{0, 15, 3, 15, 0, 3}, []int{0, 15, 1, 15, 0, 2}),
		// Two places, and more, lead to one page, with other mays; two pages of the guest are one real one.
		pileOf([]int{1, 6, 3, 9, 6, 3}, []int{6, 2, 3}),
		pileOf([]int{1, 6, 1, 9, 6, 2, 10, 6, 3}, []int{6, 2, 3}),
		pileOf([]int{2, 7, 3, 3, 8, 3}, []int{7, 13, 3, 8, 13, 1}),
		// Both may something, and nothing together.
		pileOf([]int{2, 7, 1, 3, 8, 2}, []int{7, 13, 2, 8, 14, 1}),
		// A page of the guest that is the number of another of its places.
		pileOf([]int{1, 2, 3, 2, 3, 3, 3, 1, 3}, []int{1, 2, 3, 2, 3, 1, 3, 1, 2}),
	}
}

// leafPiles have one leaf in each table at most, with each may that both may have, at places and pages near the ends.
func leafPiles() []pile {
	var l []pile
	for guest := range allMays + 1 {
		for host := range allMays + 1 {
			for _, k := range [][3]int{{0, 0, 0}, {0, 15, 15}, {15, 0, 9}, {15, 15, 0}, {6, 9, 15}} {
				l = append(l, leafPile(k[0], k[1], k[2], guest, host))
			}
		}
	}
	return l
}

// leafPile leads from one place to one page of the guest and from that to one real one, each where it may something.
func leafPile(at, own, real, guest, host int) pile {
	p := pileOf(nil, nil)
	if guest != 0 {
		p.guest.page[at], p.guest.may[at] = own, guest
	}
	if host != 0 {
		p.host.page[own], p.host.may[own] = real, host
	}
	return p
}

// goodPiles are of all kinds: plain ones, and charts of all kinds over each other.
func goodPiles() []pile {
	l := append(plainPiles(), leafPiles()...)
	charts := wideCharts()
	for k, c := range charts {
		for _, other := range []int{k, k + 1, k + 4, k + 9} {
			l = append(l, pile{c, charts[other%len(charts)]})
		}
	}
	return l
}

// fewPiles are some of them, for what is asked of many other things as well.
func fewPiles() []pile {
	all := plainPiles()
	return []pile{all[0], all[3], all[6], all[7], all[10], all[12]}
}

// narrowCharts are good charts that may not stand in a nest, because they have less lists.
func narrowCharts() []chart {
	return slices.DeleteFunc(anyCharts(), func(c chart) bool { return c.lists == wayCount })
}

// badNests are nests that are not good, for each reason at least one that is so for it alone.
func badNests() []impl.Nest {
	bad := []impl.Nest{{}}
	good := []chart{emptyChart(wayCount), fullChart(wayCount), chartOf(wayCount, wideTops, 0, 3, 3, 15, 0, 1)}
	tables := badTables()
	for _, c := range narrowCharts() {
		tables = append(tables, c.table())
	}
	for k, table := range tables {
		one := good[k%len(good)].table()
		bad = append(bad, impl.Nest{Guest: table, Host: one}, impl.Nest{Guest: one, Host: table})
	}
	return append(bad, impl.Nest{Guest: tables[0], Host: tables[0]}, impl.Nest{Guest: tables[3], Host: tables[len(tables)-1]})
}

// wantPile fails where f does not answer a nest that is the pile, and true.
func wantPile(t *testing.T, p pile, f any, args ...any) {
	t.Helper()
	want(t, []any{p.nest(), true}, f, args...)
}
