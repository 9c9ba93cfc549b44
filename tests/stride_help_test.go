package tests

import (
	"slices"
	"testing"

	"loop.example/g00620/impl"
)

// Told by number and not by the program's own constants.
const (
	clientMost = 6
	ticketMost = 12
	strideUnit = 27720
	passMost   = 100000000
	turnsMost  = 100000
	givenMost  = 200
)

func clientOf(tickets, pass, turns int) impl.Client {
	return impl.Client{Tickets: tickets, Pass: pass, Turns: turns}
}

// freshClients are clients that had no turn yet.
func freshClients(tickets ...int) []impl.Client {
	var l []impl.Client
	for _, n := range tickets {
		l = append(l, clientOf(n, strideUnit/n, 0))
	}
	return l
}

// madeClients are NewClients of what is good.
func madeClients(t *testing.T, tickets []int) []impl.Client {
	t.Helper()
	l, ok := impl.NewClients(tickets)
	if !ok {
		t.Fatalf("no clients of %v", tickets)
	}
	return l
}

// givenTurns are GiveTurns of what is good, and stays so.
func givenTurns(t *testing.T, l []impl.Client, many int) ([]impl.Client, []int) {
	t.Helper()
	after, who, ok := impl.GiveTurns(l, many)
	if !ok {
		t.Fatalf("%v: no %d turns", l, many)
	}
	return after, who
}

// lagsTold are LagOf of what is good.
func lagsTold(t *testing.T, l []impl.Client) []int {
	t.Helper()
	lags, ok := impl.LagOf(l)
	if !ok || len(lags) != len(l) {
		t.Fatalf("%v: lags %v, %v", l, lags, ok)
	}
	return lags
}

// inLine says by the document's words alone whether clients are good.
func inLine(l []impl.Client) bool {
	for _, c := range l {
		if c.Tickets < 1 || c.Tickets > ticketMost || c.Pass < 0 || c.Pass > passMost || c.Turns < 0 || c.Turns > turnsMost {
			return false
		}
	}
	return len(l) >= 1 && len(l) <= clientMost
}

// nextInLine goes from the last to the first, so that of as small ones the first stays.
func nextInLine(l []impl.Client) int {
	who := len(l) - 1
	for k := len(l) - 2; k >= 0; k-- {
		if l[k].Pass <= l[who].Pass {
			who = k
		}
	}
	return who
}

// turnsInLine are the clients behind so many turns, as the document tells it, and who had each; false where they are not good then.
func turnsInLine(l []impl.Client, many int) ([]impl.Client, []int, bool) {
	l = slices.Clone(l)
	var all []int
	for range many {
		who := nextInLine(l)
		l[who] = clientOf(l[who].Tickets, l[who].Pass+strideUnit/l[who].Tickets, l[who].Turns+1)
		all = append(all, who)
	}
	return l, all, inLine(l)
}

// lagsInLine are the lags, told client by client.
func lagsInLine(l []impl.Client) []int {
	var lags []int
	for _, c := range l {
		lag := 0
		for _, other := range l {
			lag += c.Tickets*other.Turns - c.Turns*other.Tickets
		}
		lags = append(lags, lag)
	}
	return lags
}

// ticketLists are tickets of many kinds, of one client up to the most: alike, unlike, far from each other, and such whose strides tie again and again.
func ticketLists() [][]int {
	l := [][]int{
		{1, 12}, {12, 1}, {1, 2}, {2, 1}, {11, 12}, {5, 7}, {1, 1, 12}, {12, 1, 1}, {1, 12, 1}, {3, 6, 12}, {12, 6, 3}, {7, 11, 9},
		{1, 12, 12, 12, 12, 12}, {12, 12, 12, 12, 12, 1}, {12, 1, 1, 1, 1, 1}, {1, 1, 1, 1, 1, 12}, {1, 1, 1, 12, 12, 12}, {1, 12, 1, 12, 1, 12},
		{1, 2, 3, 4, 6, 12}, {12, 6, 4, 3, 2, 1}, {2, 4, 8, 2, 4, 8}, {6, 6, 12, 12, 3, 3}, {7, 8, 9, 10, 11, 12}, {11, 7, 5, 3, 2, 1}, {1, 2, 3, 5, 8}, {10, 5, 10, 5},
	}
	for n := 1; n <= ticketMost; n++ {
		for many := 1; many <= clientMost; many++ {
			if many == 1 || many == clientMost || n == 1 || n == ticketMost {
				l = append(l, slices.Repeat([]int{n}, many))
			}
		}
	}
	next := numbersFrom(10)
	for range 40 {
		var tickets []int
		for range 1 + next(clientMost) {
			tickets = append(tickets, 1+next(ticketMost))
		}
		l = append(l, tickets)
	}
	return l
}

// goodClients are clients of many kinds: with no turn yet, behind some turns, at their limits, with ties of the least Pass, and mixed ones.
func goodClients() [][]impl.Client {
	l := atLimits()
	for k, tickets := range ticketLists() {
		after, _, _ := turnsInLine(freshClients(tickets...), 7*k%31)
		l = append(l, freshClients(tickets...), after)
	}
	for _, pass := range []int{0, 1, 27720, passMost - strideUnit} {
		l = append(l,
			[]impl.Client{clientOf(3, pass, 0), clientOf(5, pass, 9), clientOf(3, pass, 1)},
			[]impl.Client{clientOf(4, pass+9, 2), clientOf(2, pass, 2), clientOf(7, pass+1, 2), clientOf(12, pass, 2)},
			[]impl.Client{clientOf(1, pass, 8), clientOf(1, pass, 7), clientOf(1, pass, 6), clientOf(1, pass, 5), clientOf(1, pass, 4), clientOf(1, pass, 3)},
			[]impl.Client{clientOf(6, pass+2, 8), clientOf(6, pass+2, 7), clientOf(6, pass+2, 6), clientOf(6, pass+2, 5), clientOf(6, pass+2, 4), clientOf(6, pass, 3)})
	}
	next := numbersFrom(110)
	for range 60 {
		var mixed []impl.Client
		for range 1 + next(clientMost) {
			mixed = append(mixed, clientOf(1+next(ticketMost), next(2)*next(40000)+next(2)*next(passMost/2), next(3)*next(turnsMost/2)))
		}
		l = append(l, mixed)
	}
	return l
}

// atLimits are good clients that a turn, or some turns, bring just to a limit or past it, and such that have theirs behind a limit of another one.
func atLimits() [][]impl.Client {
	l := [][]impl.Client{
		{clientOf(1, passMost, turnsMost)}, {clientOf(12, 0, turnsMost)}, {clientOf(12, passMost, 0)}, {clientOf(12, 0, 0)}, {clientOf(1, 0, 0)},
		{clientOf(1, passMost, turnsMost), clientOf(12, 0, 0)}, {clientOf(3, passMost, turnsMost), clientOf(12, passMost, 0), clientOf(2, passMost-1, 1)},
		{clientOf(9, 5, turnsMost), clientOf(9, 5, 0)}, {clientOf(9, 5, 0), clientOf(9, 5, turnsMost)},
		{clientOf(12, passMost, turnsMost), clientOf(12, passMost, turnsMost), clientOf(12, passMost, turnsMost), clientOf(12, passMost, turnsMost), clientOf(12, passMost, turnsMost), clientOf(12, passMost, turnsMost)},
	}
	for _, tickets := range []int{1, 5, ticketMost} {
		stride := strideUnit / tickets
		for _, turns := range []int{0, 1, 2, 199, 200, 201} {
			for _, off := range []int{-1, 0, 1} {
				l = append(l, []impl.Client{clientOf(tickets, min(passMost, passMost-turns*stride+off), 3)})
			}
			l = append(l, []impl.Client{clientOf(tickets, 0, turnsMost-turns)})
			l = append(l, []impl.Client{clientOf(tickets, passMost, turnsMost), clientOf(tickets, passMost-turns*stride, turnsMost-turns)})
		}
	}
	return l
}

var (
	badTickets   = append([]int{-12, -1, 0, ticketMost + 1, ticketMost + 2, 24, 27720}, farOff...)
	badPasses    = append([]int{-27720, -1, passMost + 1, passMost + 27720}, farOff...)
	badTurns     = append([]int{-100, -1, turnsMost + 1, turnsMost + 200}, farOff...)
	badTurnCount = append([]int{-200, -1, givenMost + 1, givenMost + 2, 1000}, farOff...)
)

// badTicketLists are tickets of which there are no clients, each for one reason.
func badTicketLists() [][]int {
	bad := [][]int{nil, {}}
	for _, many := range []int{clientMost + 1, clientMost + 2, 12, 100} {
		bad = append(bad, slices.Repeat([]int{1}, many), slices.Repeat([]int{12}, many))
	}
	for many := 1; many <= clientMost; many++ {
		for k := range many {
			for _, n := range badTickets {
				tickets := slices.Repeat([]int{5}, many)
				tickets[k] = n
				bad = append(bad, tickets)
			}
		}
	}
	return bad
}

// badClients are clients that are not good, each for one reason.
func badClients() [][]impl.Client {
	bad := [][]impl.Client{nil, {}, {{}}}
	for _, many := range []int{clientMost + 1, clientMost + 2, 12, 100} {
		bad = append(bad, slices.Repeat(freshClients(3), many))
	}
	spoilt := func(many, k int, c impl.Client) {
		l := slices.Repeat(freshClients(3), many)
		l[k] = c
		bad = append(bad, l)
	}
	for _, many := range []int{1, 2, clientMost} {
		for k := range many {
			for _, n := range badTickets {
				spoilt(many, k, clientOf(n, 9240, 0))
			}
			for _, n := range badPasses {
				spoilt(many, k, clientOf(3, n, 0))
			}
			for _, n := range badTurns {
				spoilt(many, k, clientOf(3, 9240, n))
			}
		}
	}
	return bad
}
