package tests

import (
	"slices"
	"testing"

	"loop.example/g00620/impl"
)

// Promise 10: of clients from NewClients on nobody is ahead by more than its tickets times how many there are, or behind by more than all tickets.

// wantNear fails where a client is too far ahead or behind, or the turns of all are not as many as were given.
func wantNear(t *testing.T, l []impl.Client, given int) {
	t.Helper()
	turns, tickets := 0, 0
	for _, c := range l {
		turns, tickets = turns+c.Turns, tickets+c.Tickets
	}
	if turns != given {
		t.Fatalf("%v: %d turns, not %d", l, turns, given)
	}
	for k, lag := range lagsTold(t, l) {
		if own := l[k].Tickets*turns - l[k].Turns*tickets; lag != own {
			t.Fatalf("%v: lag %d is %d, not %d", l, k, lag, own)
		}
		if -lag > l[k].Tickets*len(l) || lag > tickets {
			t.Fatalf("%v: behind %d turns lag %d is %d", l, given, k, lag)
		}
	}
}

func TestNobodyIsFarAheadOrBehind(t *testing.T) {
	for _, tickets := range ticketLists() {
		fresh := madeClients(t, tickets)
		for many := range givenMost + 1 {
			after, who := givenTurns(t, fresh, many)
			if len(who) != many {
				t.Fatalf("%v: %d turns are had by %v", tickets, many, who)
			}
			wantNear(t, after, many)
		}
	}
}

// Two and three clients of any tickets, turn by turn.
func TestNobodyIsFarWithAnyTickets(t *testing.T) {
	one := func(tickets ...int) {
		l := madeClients(t, tickets)
		for given := range 60 {
			wantNear(t, l, given)
			l, _ = givenTurns(t, l, 1)
		}
	}
	for a := 1; a <= ticketMost; a++ {
		for b := 1; b <= ticketMost; b++ {
			one(a, b)
			for c := 1; c <= ticketMost; c++ {
				one(a, b, c)
			}
		}
	}
}

// It holds however long they go on, not only for the turns of one call.
func TestNobodyIsFarInTheLongRun(t *testing.T) {
	for _, tickets := range ticketLists() {
		l, given := madeClients(t, tickets), 0
		for _, many := range slices.Repeat([]int{givenMost, 1, 77, 3, 0, givenMost - 1}, 4) {
			l, _ = givenTurns(t, l, many)
			given += many
			wantNear(t, l, given)
		}
	}
}

// Behind as many turns as there are tickets each had as many as it has tickets, again and again.
func TestTurnsAreInProportion(t *testing.T) {
	for _, tickets := range ticketLists() {
		l, all := madeClients(t, tickets), 0
		for _, n := range tickets {
			all += n
		}
		for round := 1; round <= 20; round++ {
			after, who := givenTurns(t, l, all)
			for k, n := range tickets {
				had := 0
				for _, one := range who {
					if one == k {
						had++
					}
				}
				if said := clientOf(n, strideUnit/n+round*strideUnit, round*n); had != n || after[k] != said {
					t.Fatalf("%v, round %d: client %d had %d turns and is %v, not %v", tickets, round, k, had, after[k], said)
				}
			}
			if lags := lagsTold(t, after); slices.Max(lags) != 0 || slices.Min(lags) != 0 {
				t.Fatalf("%v, round %d: lags %v", tickets, round, lags)
			}
			l = after
		}
	}
}

// The turns of each add up: what each has more is how often it is told.
func TestTurnsAddUp(t *testing.T) {
	for _, l := range goodClients() {
		for _, many := range []int{0, 1, 2, 13, 100, givenMost} {
			after, who, ok := impl.GiveTurns(l, many)
			if !ok {
				continue
			}
			had := make([]int, len(l))
			for _, one := range who {
				had[one]++
			}
			for k, c := range l {
				if said := clientOf(c.Tickets, c.Pass+had[k]*strideUnit/c.Tickets, c.Turns+had[k]); after[k] != said {
					t.Fatalf("%v: behind %d turns, had by %v, client %d is %v, not %v", l, many, who, k, after[k], said)
				}
			}
			if len(who) != many {
				t.Fatalf("%v: %d turns are had by %v", l, many, who)
			}
		}
	}
}

// eachStart goes through clients that had no turn yet, and good ones of all kinds.
func eachStart(t *testing.T, f func(l []impl.Client)) {
	for _, tickets := range ticketLists() {
		f(madeClients(t, tickets))
	}
	for _, l := range goodClients() {
		f(l)
	}
}

// So many turns at once are a turn so many times, each had by the one whose turn was next; where one of these is refused all are.
func TestTurnsAreTurnByTurn(t *testing.T) {
	refused := 0
	eachStart(t, func(start []impl.Client) {
		l, all, stays := start, []int(nil), true
		for many := range givenMost + 1 {
			after, who, ok := impl.GiveTurns(start, many)
			if ok != stays || !slices.Equal(after, l) || !slices.Equal(who, all) {
				t.Fatalf("%v: %d turns: %v, %v, %v, not %v, %v, %v", start, many, after, who, ok, l, all, stays)
			}
			if !stays {
				refused++
				continue
			}
			next, _ := impl.NextClient(l)
			behind, one, ok := impl.GiveTurn(l)
			if ok && one != next {
				t.Fatalf("%v: the turn of %d was had by %d", l, next, one)
			}
			if l, all, stays = behind, append(all, one), ok; !ok {
				all = nil
			}
		}
	})
	if refused < 1000 {
		t.Fatalf("too few refused: %d", refused)
	}
}

func TestTurnsInTwoParts(t *testing.T) {
	eachStart(t, func(start []impl.Client) {
		for _, many := range []int{0, 1, 2, 3, 10, 47, givenMost - 1, givenMost} {
			whole, all, ok := impl.GiveTurns(start, many)
			for cut := 0; cut <= many; cut += 1 + many/12 {
				half, first, _ := impl.GiveTurns(start, cut)
				after, second, is := impl.GiveTurns(half, many-cut)
				if !is {
					first = nil
				}
				if is != ok || !slices.Equal(after, whole) || !slices.Equal(append(first, second...), all) {
					t.Fatalf("%v: %d and %d turns: %v, %v and %v, %v, not %v, %v, %v", start, cut, many-cut, after, first, second, is, whole, all, ok)
				}
			}
		}
	})
}

// Of those with the least Pass the first one has the turn, however often they tie.
func TestTiesGoToTheFirst(t *testing.T) {
	for _, one := range []struct {
		tickets []int
		who     []int
	}{
		{[]int{1}, []int{0, 0, 0}},
		{[]int{1, 1}, []int{0, 1, 0, 1, 0}},
		{[]int{12, 12, 12}, []int{0, 1, 2, 0, 1, 2, 0}},
		{[]int{5, 5, 5, 5, 5, 5}, []int{0, 1, 2, 3, 4, 5, 0, 1, 2, 3, 4, 5}},
		{[]int{1, 2}, []int{1, 0, 1, 1, 0, 1}},
		{[]int{2, 1}, []int{0, 0, 1, 0, 0, 1}},
		{[]int{2, 4, 2}, []int{1, 0, 1, 2, 1, 0, 1, 2}},
		{[]int{1, 2, 3}, []int{2, 1, 2, 0, 1, 2, 2, 1, 2, 0, 1, 2}},
		{[]int{3, 2, 1}, []int{0, 1, 0, 0, 1, 2, 0, 1, 0, 0, 1, 2}},
		{[]int{1, 12}, []int{1, 1, 1, 1, 1, 1, 1, 1, 1, 1, 1, 0, 1, 1}},
		{[]int{12, 1}, []int{0, 0, 0, 0, 0, 0, 0, 0, 0, 0, 0, 0, 1, 0}},
	} {
		if _, who := givenTurns(t, madeClients(t, one.tickets), len(one.who)); !slices.Equal(who, one.who) {
			t.Errorf("%v: turns are had by %v, not %v", one.tickets, who, one.who)
		}
	}
}
