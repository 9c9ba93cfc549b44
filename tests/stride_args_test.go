package tests

import (
	"slices"
	"testing"

	"loop.example/g00620/impl"
)

// Promise 19, for chapter 10: every function answers at any arguments, and writes into none.

func TestNewClients(t *testing.T) {
	for _, tickets := range ticketLists() {
		want(t, []any{freshClients(tickets...), true}, impl.NewClients, tickets)
	}
	want(t, []any{[]impl.Client{{Tickets: 1, Pass: 27720}, {Tickets: 12, Pass: 2310}}, true}, impl.NewClients, []int{1, 12})
	for _, tickets := range badTicketLists() {
		wantZero(t, impl.NewClients, tickets)
	}
	for n := -2; n < 16; n++ {
		if n >= 1 && n <= ticketMost {
			want(t, []any{freshClients(n), true}, impl.NewClients, []int{n})
		} else {
			wantZero(t, impl.NewClients, []int{n})
		}
	}
}

func TestGoodClients(t *testing.T) {
	for _, l := range goodClients() {
		want(t, []any{true}, impl.GoodClients, l)
	}
	for _, l := range badClients() {
		want(t, []any{false}, impl.GoodClients, l)
	}
	for many := range 20 {
		want(t, []any{many >= 1 && many <= clientMost}, impl.GoodClients, slices.Repeat(freshClients(7), many))
	}
}

// TestGoodClientsNumbers goes through each number, near to its ends and beyond them, beside good clients.
func TestGoodClientsNumbers(t *testing.T) {
	for tickets := -1; tickets <= ticketMost+2; tickets++ {
		for _, pass := range []int{-1, 0, 1, 27720, passMost - 1, passMost, passMost + 1} {
			for _, turns := range []int{-1, 0, 1, turnsMost - 1, turnsMost, turnsMost + 1} {
				good := tickets >= 1 && tickets <= ticketMost && pass >= 0 && pass <= passMost && turns >= 0 && turns <= turnsMost
				c := clientOf(tickets, pass, turns)
				want(t, []any{good}, impl.GoodClients, []impl.Client{c})
				want(t, []any{good}, impl.GoodClients, append(freshClients(1, 12), c))
				want(t, []any{good}, impl.GoodClients, append([]impl.Client{c}, freshClients(1, 12)...))
			}
		}
	}
}

func TestNextClient(t *testing.T) {
	for _, l := range goodClients() {
		want(t, []any{nextInLine(l), true}, impl.NextClient, l)
	}
	for _, l := range badClients() {
		wantZero(t, impl.NextClient, l)
	}
}

// The least Pass is found wherever it stands, and the first one where it stands twice.
func TestNextClientPlaces(t *testing.T) {
	for many := 1; many <= clientMost; many++ {
		for first := range many {
			for second := first; second < many; second++ {
				l := slices.Repeat([]impl.Client{clientOf(12, passMost, 0)}, many)
				l[first], l[second] = clientOf(1, passMost-1, 7), clientOf(1, passMost-1, 3)
				want(t, []any{first, true}, impl.NextClient, l)
				l[first].Pass, l[second].Pass = 0, 0
				want(t, []any{first, true}, impl.NextClient, l)
			}
		}
	}
}

func TestGiveTurn(t *testing.T) {
	refused := 0
	for _, l := range goodClients() {
		if after, who, ok := turnsInLine(l, 1); ok {
			want(t, []any{after, who[0], true}, impl.GiveTurn, l)
		} else {
			wantZero(t, impl.GiveTurn, l)
			refused++
		}
	}
	if refused < 10 {
		t.Fatalf("too few refused: %d", refused)
	}
	for _, l := range badClients() {
		wantZero(t, impl.GiveTurn, l)
	}
}

// A turn may bring a Pass or the Turns just to their limit, but not past it; what others have does not count.
func TestGiveTurnLimits(t *testing.T) {
	for tickets := 1; tickets <= ticketMost; tickets++ {
		stride := strideUnit / tickets
		full := clientOf(tickets, passMost, turnsMost)
		for _, one := range []struct {
			pass, turns int
			ok          bool
		}{
			{passMost - stride - 1, 5, true},
			{passMost - stride, 5, true},
			{passMost - stride + 1, 5, false},
			{passMost - 1, 5, false},
			{5, turnsMost - 2, true},
			{5, turnsMost - 1, true},
			{5, turnsMost, false},
			{passMost - stride, turnsMost - 1, true},
			{passMost - stride + 1, turnsMost - 1, false},
			{passMost - stride, turnsMost, false},
		} {
			l := []impl.Client{full, clientOf(tickets, one.pass, one.turns), full}
			after := []impl.Client{full, clientOf(tickets, one.pass+stride, one.turns+1), full}
			if one.ok {
				want(t, []any{after, 1, true}, impl.GiveTurn, l)
				want(t, []any{after, []int{1}, true}, impl.GiveTurns, l, 1)
			} else {
				wantZero(t, impl.GiveTurn, l)
				wantZero(t, impl.GiveTurns, l, 1)
			}
			want(t, []any{l, []int(nil), true}, impl.GiveTurns, l, 0)
		}
	}
}

func TestGiveTurns(t *testing.T) {
	for _, l := range goodClients() {
		for _, many := range []int{0, 1, 2, 3, 17, 64, givenMost - 1, givenMost} {
			if after, who, ok := turnsInLine(l, many); ok {
				want(t, []any{after, who, true}, impl.GiveTurns, l, many)
			} else {
				wantZero(t, impl.GiveTurns, l, many)
			}
		}
	}
	for _, tickets := range [][]int{{1}, {12}, {1, 12}, {3, 1, 4, 1, 5, 9}} {
		for _, many := range badTurnCount {
			wantZero(t, impl.GiveTurns, freshClients(tickets...), many)
		}
		for many := range givenMost + 1 {
			after, who, _ := turnsInLine(freshClients(tickets...), many)
			want(t, []any{after, who, true}, impl.GiveTurns, freshClients(tickets...), many)
		}
	}
	for _, l := range badClients() {
		for _, many := range []int{0, 1, givenMost, -1, givenMost + 1} {
			wantZero(t, impl.GiveTurns, l, many)
		}
	}
}

// Turns that come past a limit in their midst are refused as a whole; those up to it are given.
func TestGiveTurnsLimits(t *testing.T) {
	for _, left := range []int{0, 1, 2, 99, givenMost - 1, givenMost} {
		byPass := []impl.Client{clientOf(1, passMost, 0), clientOf(4, passMost-left*6930, 0), clientOf(2, passMost, 0)}
		byTurns := []impl.Client{clientOf(2, passMost, 0), clientOf(4, 0, turnsMost-left)}
		for _, l := range [][]impl.Client{byPass, byTurns} {
			for many := range givenMost + 2 {
				if many > left {
					wantZero(t, impl.GiveTurns, l, many)
					continue
				}
				after := slices.Clone(l)
				after[1].Pass += many * 6930
				after[1].Turns += many
				want(t, []any{after, slices.Repeat([]int{1}, many), true}, impl.GiveTurns, l, many)
			}
		}
	}
}

func TestStrideOf(t *testing.T) {
	for k, stride := range []int{27720, 13860, 9240, 6930, 5544, 4620, 3960, 3465, 3080, 2772, 2520, 2310} {
		want(t, []any{stride, true}, impl.StrideOf, k+1)
		if stride*(k+1) != strideUnit {
			t.Fatalf("of %d tickets there is a rest", k+1)
		}
	}
	for _, tickets := range badTickets {
		wantZero(t, impl.StrideOf, tickets)
	}
	if impl.StrideOne != strideUnit || impl.MaxClients != clientMost {
		t.Fatal(impl.StrideOne, impl.MaxClients)
	}
}

func TestLagOf(t *testing.T) {
	for _, l := range goodClients() {
		want(t, []any{lagsInLine(l), true}, impl.LagOf, l)
	}
	for _, one := range []struct {
		l    []impl.Client
		lags []int
	}{
		{[]impl.Client{clientOf(7, 0, 90)}, []int{0}},
		{[]impl.Client{clientOf(1, 0, 0), clientOf(2, 0, 1)}, []int{1, -1}},
		{[]impl.Client{clientOf(1, 0, 1), clientOf(2, 0, 0)}, []int{-2, 2}},
		{[]impl.Client{clientOf(1, 9, 2), clientOf(2, 5, 4)}, []int{0, 0}},
		{[]impl.Client{clientOf(1, 0, turnsMost), clientOf(12, 0, 0)}, []int{-1200000, 1200000}},
		{[]impl.Client{clientOf(3, 0, 1), clientOf(4, 0, 2), clientOf(5, 0, 0)}, []int{-3, -12, 15}},
	} {
		want(t, []any{one.lags, true}, impl.LagOf, one.l)
	}
	for _, l := range badClients() {
		wantZero(t, impl.LagOf, l)
	}
}
