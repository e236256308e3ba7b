package tests

import (
	"math"
	"slices"
	"sync"
	"testing"

	"loop.example/g00470/impl"
)

// visitsOf has three numbers a visit: who heard it, by which port, over how many links.
func visitsOf(numbers ...int) []impl.Visit {
	var list []impl.Visit
	for at := 0; at+3 <= len(numbers); at += 3 {
		list = append(list, impl.Visit{Bridge: numbers[at], Port: numbers[at+1], Far: numbers[at+2]})
	}
	return list
}

// noPlaces are no bridges of any net, and no ports of any bridge.
var noPlaces = append(slices.Clone(noNumbers), -3, -4, 5, 6)

// plainVisit knows the whole way that it came, from the one that began on.
type plainVisit struct {
	way  []int
	port int
}

func (v plainVisit) bridge() int { return v.way[len(v.way)-1] }

// plainAcross, and the plain ones behind it, say again what the chapter says.
func plainAcross(n impl.Net, b int, p int) (int, int, bool) {
	for link, l := range n.Links {
		switch {
		case !plainPasses(n, link):
		case l.A == b && l.P == p:
			return l.B, l.Q, true
		case l.B == b && l.Q == p:
			return l.A, l.P, true
		}
	}
	return 0, 0, false
}

// plainVisits goes link by link further, all who heard it over as many of them at once.
func plainVisits(n impl.Net, from int) []plainVisit {
	if !plainNetOk(n) || from < 0 || from >= len(n.Bridges) {
		return nil
	}
	var all []plainVisit
	for nearest := []plainVisit{{[]int{from}, -1}}; len(nearest) > 0 && len(all) < 60; {
		var further []plainVisit
		for _, v := range nearest {
			for port := range n.Bridges[v.bridge()].Ports {
				if b, q, ok := plainAcross(n, v.bridge(), port); ok && port != v.port {
					further = append(further, plainVisit{append(slices.Clone(v.way), b), q})
				}
			}
		}
		all, nearest = append(all, further...), further
	}
	return all[:min(len(all), 60)]
}

func visitsAs(plain []plainVisit) []impl.Visit {
	var list []impl.Visit
	for _, v := range plain {
		list = append(list, impl.Visit{Bridge: v.bridge(), Port: v.port, Far: len(v.way) - 1})
	}
	return list
}

func plainHeardBy(n impl.Net, from int, plain []plainVisit) []int {
	if !plainNetOk(n) || from < 0 || from >= len(n.Bridges) {
		return nil
	}
	var list []int
	for at := range n.Bridges {
		count := 0
		for _, v := range plain {
			if v.bridge() == at {
				count++
			}
		}
		list = append(list, count)
	}
	return list
}

func plainPathTo(n impl.Net, from int, to int, plain []plainVisit) []int {
	if !plainNetOk(n) || from < 0 || from >= len(n.Bridges) {
		return nil
	}
	if from == to {
		return []int{from}
	}
	for _, v := range plain {
		if v.bridge() == to {
			return v.way
		}
	}
	return nil
}

func wantAcross(t *testing.T, n impl.Net, b int, p int, far int, port int) {
	t.Helper()
	if gotFar, gotPort, ok := impl.Across(n, b, p); !ok || gotFar != far || gotPort != port {
		t.Errorf("Across(%+v, %d, %d): %d %d %v, want %d %d", n, b, p, gotFar, gotPort, ok, far, port)
	}
}

func wantNoneAcross(t *testing.T, n impl.Net, b int, p int) {
	t.Helper()
	if far, port, ok := impl.Across(n, b, p); ok || far != 0 || port != 0 {
		t.Errorf("Across(%+v, %d, %d): %d %d %v, want none", n, b, p, far, port, ok)
	}
}

func wantAcrossAsPlain(t *testing.T, n impl.Net, b int, p int) {
	t.Helper()
	if far, port, ok := plainAcross(n, b, p); ok {
		wantAcross(t, n, b, p, far, port)
		return
	}
	wantNoneAcross(t, n, b, p)
}

func wantFlood(t *testing.T, n impl.Net, from int, want ...impl.Visit) {
	t.Helper()
	if got := impl.Flood(n, from); !slices.Equal(got, want) {
		t.Errorf("Flood(%+v, %d): %v, want %v", n, from, got, want)
	}
}

func wantHeardBy(t *testing.T, n impl.Net, from int, want ...int) {
	t.Helper()
	if got := impl.HeardBy(n, from); !slices.Equal(got, want) {
		t.Errorf("HeardBy(%+v, %d): %v, want %v", n, from, got, want)
	}
}

func wantPathTo(t *testing.T, n impl.Net, from int, to int, want ...int) {
	t.Helper()
	if got := impl.PathTo(n, from, to); !slices.Equal(got, want) {
		t.Errorf("PathTo(%+v, %d, %d): %v, want %v", n, from, to, got, want)
	}
}

// wantFloodFrom holds what is told from one bridge against what the chapter says.
func wantFloodFrom(t *testing.T, n impl.Net, from int) {
	t.Helper()
	plain := plainVisits(n, from)
	wantFlood(t, n, from, visitsAs(plain)...)
	wantHeardBy(t, n, from, plainHeardBy(n, from, plain)...)
	for to := -1; to <= len(n.Bridges); to++ {
		wantPathTo(t, n, from, to, plainPathTo(n, from, to, plain)...)
	}
}

// wantFloodAsPlain holds all of the chapter against what it says.
func wantFloodAsPlain(t *testing.T, n impl.Net) {
	t.Helper()
	for b := -1; b <= len(n.Bridges); b++ {
		for p := -1; p <= impl.MaxPorts; p++ {
			wantAcrossAsPlain(t, n, b, p)
		}
		wantFloodFrom(t, n, b)
	}
}

// wantNobodyHears asks that nothing is told from there, nor of the way to anywhere.
func wantNobodyHears(t *testing.T, n impl.Net, from int) {
	t.Helper()
	wantFlood(t, n, from)
	wantHeardBy(t, n, from)
	for _, to := range append([]int{0, 1, 2, 3, 4, from}, noPlaces...) {
		wantPathTo(t, n, from, to)
	}
}

func TestFloodLimits(t *testing.T) {
	if impl.MaxVisits != 60 {
		t.Error(impl.MaxVisits)
	}
}

func TestAcross(t *testing.T) {
	n := madeOf(3, linksOf(2, 3, 0, 1, 1, 2, 2, 0), "oo")
	wantAcross(t, n, 2, 3, 0, 1)
	wantAcross(t, n, 0, 1, 2, 3)
	wantAcross(t, n, 1, 2, 2, 0)
	wantAcross(t, n, 2, 0, 1, 2)
	// ports without a link
	for _, at := range [][2]int{{0, 0}, {0, 2}, {0, 3}, {1, 0}, {1, 1}, {1, 3}, {2, 1}, {2, 2}} {
		wantNoneAcross(t, n, at[0], at[1])
	}
	// settled, the ring is shut at one end of one link: it passes neither way
	s := impl.Settle(ringNet(), 30)
	wantAcross(t, s, 0, 0, 1, 0)
	wantAcross(t, s, 1, 0, 0, 0)
	wantAcross(t, s, 1, 1, 2, 0)
	wantAcross(t, s, 2, 0, 1, 1)
	wantNoneAcross(t, s, 2, 1)
	wantNoneAcross(t, s, 0, 1)
	if !s.Bridges[2].Ports[1].Open || s.Bridges[0].Ports[1].Open {
		t.Errorf("another end is shut: %+v", s)
	}
	// of new ones nothing passes yet
	for b := range 3 {
		for p := range impl.MaxPorts {
			wantNoneAcross(t, ringNet(), b, p)
		}
	}
}

func TestAcrossOfWhatDoesNotPass(t *testing.T) {
	for _, letter := range []string{"a", "b", "s"} {
		n := madeOf(2, pairs(3), "o"+letter+"o")
		for p, want := range []int{0, -1, 2} {
			for b := range 2 {
				if want < 0 {
					wantNoneAcross(t, n, b, p)
					continue
				}
				wantAcross(t, n, b, p, 1-b, want)
			}
		}
	}
}

func TestAcrossOfNothing(t *testing.T) {
	for _, s := range shapes {
		n := madeOf(s.count, s.links, "oooooo")
		for _, far := range append(slices.Clone(noPlaces), 4) {
			for at := range 5 {
				wantNoneAcross(t, n, at, far)
			}
			wantNoneAcross(t, n, far, far)
		}
		for _, far := range append(slices.Clone(noPlaces), s.count) {
			for port := range 5 {
				wantNoneAcross(t, n, far, port)
			}
		}
	}
	// a port that others have, and this bridge has not
	few := impl.Net{Bridges: []impl.Bridge{bridgeOf(9, portFor(impl.RoDes, 0)), bridgeOf(8, impl.Port{}, portFor(impl.RoRoot, 0))}, Links: linksOf(0, 0, 1, 1)}
	wantAcross(t, few, 0, 0, 1, 1)
	wantAcross(t, few, 1, 1, 0, 0)
	wantNoneAcross(t, few, 0, 1)
	wantNoneAcross(t, few, 1, 0)
	wantNoneAcross(t, few, 1, 2)
}

// Who goes across comes back across.
func TestAcrossGoesBothWays(t *testing.T) {
	for _, n := range slices.Concat(newNets(), anyNets(1000)) {
		for _, n := range []impl.Net{n, impl.Settle(n, 30)} {
			passing := 0
			for b := range n.Bridges {
				for p := range n.Bridges[b].Ports {
					if far, port, ok := impl.Across(n, b, p); ok {
						wantAcross(t, n, far, port, b, p)
						passing++
					}
				}
			}
			for link := range n.Links {
				if impl.Passes(n, link) {
					passing -= 2
				}
			}
			if passing != 0 {
				t.Fatalf("%d ends too many: %+v", passing, n)
			}
		}
	}
}

func TestFloodOfOneAlone(t *testing.T) {
	n, _ := impl.NetNew([]int{3}, nil)
	wantFlood(t, n, 0)
	wantHeardBy(t, n, 0, 0)
	wantPathTo(t, n, 0, 0, 0)
	// each of several that no link joins
	n, _ = impl.NetNew([]int{3, 1, 2, 9, 8}, nil)
	for from := range 5 {
		wantFlood(t, n, from)
		wantHeardBy(t, n, from, 0, 0, 0, 0, 0)
		for to := range 5 {
			if to == from {
				wantPathTo(t, n, from, to, from)
				continue
			}
			wantPathTo(t, n, from, to)
		}
	}
}

func TestFloodOfARow(t *testing.T) {
	n := madeOf(5, row(5), "oooo")
	wantFlood(t, n, 0, visitsOf(1, 1, 1, 2, 1, 2, 3, 1, 3, 4, 1, 4)...)
	wantFlood(t, n, 4, visitsOf(3, 0, 1, 2, 0, 2, 1, 0, 3, 0, 0, 4)...)
	wantFlood(t, n, 2, visitsOf(3, 1, 1, 1, 0, 1, 4, 1, 2, 0, 0, 2)...)
	wantHeardBy(t, n, 0, 0, 1, 1, 1, 1)
	wantHeardBy(t, n, 2, 1, 1, 0, 1, 1)
	wantPathTo(t, n, 0, 4, 0, 1, 2, 3, 4)
	wantPathTo(t, n, 4, 0, 4, 3, 2, 1, 0)
	wantPathTo(t, n, 2, 4, 2, 3, 4)
	wantPathTo(t, n, 2, 2, 2)
	wantPathTo(t, n, 3, 2, 3, 2)
	// one link in it does not pass
	for _, letter := range []string{"a", "b", "s"} {
		n = madeOf(5, row(5), "oo"+letter+"o")
		wantFlood(t, n, 0, visitsOf(1, 1, 1, 2, 1, 2)...)
		wantFlood(t, n, 2, visitsOf(1, 0, 1, 0, 0, 2)...)
		wantFlood(t, n, 3, visitsOf(4, 1, 1)...)
		wantHeardBy(t, n, 1, 1, 0, 1, 0, 0)
		wantHeardBy(t, n, 4, 0, 0, 0, 1, 0)
		wantPathTo(t, n, 2, 0, 2, 1, 0)
		wantPathTo(t, n, 2, 3)
		wantPathTo(t, n, 3, 2)
		wantPathTo(t, n, 4, 4, 4)
	}
}

// By each port, ascending: neither in the order of the links nor in that of the bridges.
func TestFloodGoesByPorts(t *testing.T) {
	n := madeOf(5, linksOf(0, 2, 1, 3, 3, 2, 0, 3, 0, 1, 4, 0, 2, 1, 0, 0), "oooo")
	wantFlood(t, n, 0, visitsOf(2, 1, 1, 4, 0, 1, 1, 3, 1, 3, 2, 1)...)
	wantFlood(t, n, 4, visitsOf(0, 1, 1, 2, 1, 2, 1, 3, 2, 3, 2, 2)...)
	wantFlood(t, n, 1, visitsOf(0, 2, 1, 2, 1, 2, 4, 0, 2, 3, 2, 2)...)
	// a bridge of fewer ports than others
	few := impl.Net{Bridges: []impl.Bridge{bridgeOf(4, portFor(impl.RoDes, 0)), bridgeOf(2, impl.Port{}, portFor(impl.RoDes, 0), portFor(impl.RoDes, 0)), bridgeOf(3, portFor(impl.RoRoot, 0))}, Links: linksOf(0, 0, 1, 2, 2, 0, 1, 1)}
	wantFlood(t, few, 1, visitsOf(2, 0, 1, 0, 0, 1)...)
	wantFlood(t, few, 0, visitsOf(1, 2, 1, 2, 0, 2)...)
	wantPathTo(t, few, 0, 2, 0, 1, 2)
}

// Those nearer first, and of them those first that heard it first.
func TestFloodInTheOrderInWhichTheyHeardIt(t *testing.T) {
	// 0 hands on to 3 and then to 1; 3 has 2 behind it, 1 has 4
	n := madeOf(5, linksOf(0, 0, 3, 3, 0, 1, 1, 0, 1, 1, 4, 2, 3, 0, 2, 1), "oooo")
	wantFlood(t, n, 0, visitsOf(3, 3, 1, 1, 0, 1, 2, 1, 2, 4, 2, 2)...)
	wantFlood(t, n, 2, visitsOf(3, 0, 1, 0, 0, 2, 1, 0, 3, 4, 2, 4)...)
	// 0 hands on to 1 and then to 3: 4 hears it ahead of 2
	n = madeOf(5, linksOf(0, 1, 3, 3, 0, 0, 1, 0, 1, 1, 4, 2, 3, 0, 2, 1), "oooo")
	wantFlood(t, n, 0, visitsOf(1, 0, 1, 3, 3, 1, 4, 2, 2, 2, 1, 2)...)
}

func TestFloodOfWhatIsSettled(t *testing.T) {
	s := impl.Settle(ringNet(), 30)
	wantFlood(t, s, 0, visitsOf(1, 0, 1, 2, 0, 2)...)
	wantFlood(t, s, 1, visitsOf(0, 0, 1, 2, 0, 1)...)
	wantFlood(t, s, 2, visitsOf(1, 1, 1, 0, 0, 2)...)
	wantHeardBy(t, s, 0, 0, 1, 1)
	wantHeardBy(t, s, 1, 1, 0, 1)
	wantPathTo(t, s, 0, 2, 0, 1, 2)
	wantPathTo(t, s, 2, 0, 2, 1, 0)
	// of new ones nothing passes, so nobody hears it
	for from := range 3 {
		wantFlood(t, ringNet(), from)
		wantHeardBy(t, ringNet(), from, 0, 0, 0)
		wantPathTo(t, ringNet(), from, from, from)
		wantPathTo(t, ringNet(), from, (from+1)%3)
	}
}

// Round an open ring it goes both ways, past the one that began, until there are MaxVisits.
func TestFloodRoundARing(t *testing.T) {
	for count := 3; count <= 5; count++ {
		n := madeOf(count, ring(count), "ooooo")
		for from := range count {
			var want []impl.Visit
			for far := 1; far <= 30; far++ {
				want = append(want, visitsOf((from+far)%count, 1, far, (from+30*count-far)%count, 0, far)...)
			}
			wantFlood(t, n, from, want...)
		}
	}
	for from := range 3 {
		wantHeardBy(t, madeOf(3, ring(3), "ooo"), from, 20, 20, 20)
		wantHeardBy(t, madeOf(5, ring(5), "ooooo"), from, 12, 12, 12, 12, 12)
	}
	// thirty links far it is at the other side of four
	n := madeOf(4, ring(4), "oooo")
	wantHeardBy(t, n, 0, 14, 15, 16, 15)
	wantHeardBy(t, n, 3, 15, 16, 15, 14)
	// as long one way as the other: by the lesser port
	wantPathTo(t, n, 0, 2, 0, 1, 2)
	wantPathTo(t, n, 2, 0, 2, 3, 0)
	wantPathTo(t, n, 1, 3, 1, 2, 3)
	wantPathTo(t, n, 3, 1, 3, 0, 1)
	// the shorter one, though by the greater port
	n = madeOf(5, ring(5), "ooooo")
	wantPathTo(t, n, 0, 3, 0, 4, 3)
	wantPathTo(t, n, 0, 2, 0, 1, 2)
	wantPathTo(t, n, 4, 1, 4, 0, 1)
	wantPathTo(t, n, 4, 4, 4)
}

// What goes round comes again to those beside the ring; what is beside no ring ends.
func TestFloodBesideARing(t *testing.T) {
	tailed := append(ring(3), linksOf(2, 2, 3, 0, 3, 1, 4, 0)...)
	n := madeOf(5, tailed, "ooooo")
	wantFlood(t, n, 4, visitsAs(plainVisits(n, 4))...)
	got := impl.Flood(n, 4)
	if len(got) != impl.MaxVisits || !slices.Equal(got[:8], visitsOf(3, 1, 1, 2, 2, 2, 0, 1, 3, 1, 0, 3, 1, 1, 4, 0, 0, 4, 2, 1, 5, 2, 0, 5)) {
		t.Errorf("Flood(%+v, 4): %v", n, got)
	}
	// 4 hears again what it told itself
	if heard := impl.HeardBy(n, 4); heard[4] == 0 || heard[3] < 2 {
		t.Errorf("HeardBy(%+v, 4): %v", n, heard)
	}
	wantPathTo(t, n, 4, 0, 4, 3, 2, 0)
	wantPathTo(t, n, 4, 1, 4, 3, 2, 1)
	wantPathTo(t, n, 0, 4, 0, 2, 3, 4)
	wantPathTo(t, n, 4, 4, 4)
	// a ring that it does not come to
	apart := linksOf(0, 0, 1, 0, 2, 0, 3, 0, 3, 1, 4, 0, 4, 1, 2, 1)
	n = madeOf(5, apart, "oooo")
	wantFlood(t, n, 0, visitsOf(1, 0, 1)...)
	wantHeardBy(t, n, 0, 0, 1, 0, 0, 0)
	wantPathTo(t, n, 0, 2)
	wantHeardBy(t, n, 3, 0, 0, 20, 20, 20)
	wantPathTo(t, n, 2, 0)
}

// Of several links between two, each is gone over both ways.
func TestFloodOfLinksBetweenTheSameTwo(t *testing.T) {
	wantFlood(t, madeOf(2, pairs(1), "o"), 0, visitsOf(1, 0, 1)...)
	var want []impl.Visit
	for far := 1; far <= 30; far++ {
		// what goes out by 0 comes back by 1, and so on
		want = append(want, visitsOf(far%2, (far+1)%2, far, far%2, far%2, far)...)
	}
	wantFlood(t, madeOf(2, pairs(2), "oo"), 0, want...)
	wantHeardBy(t, madeOf(2, pairs(2), "oo"), 0, 30, 30)
	// three at first, then twice as many each time, of which the last ones are left away
	n := madeOf(2, pairs(3), "ooo")
	wantFlood(t, n, 1, visitsAs(plainVisits(n, 1))...)
	wantHeardBy(t, n, 1, 3+12+15, 6+24)
	// four at first, then three times as many
	n = madeOf(2, pairs(4), "oooo")
	got := impl.Flood(n, 0)
	if len(got) != impl.MaxVisits || !slices.Equal(got[:7], visitsOf(1, 0, 1, 1, 1, 1, 1, 2, 1, 1, 3, 1, 0, 1, 2, 0, 2, 2, 0, 3, 2)) || !slices.Equal(got[16:19], visitsOf(1, 0, 3, 1, 2, 3, 1, 3, 3)) {
		t.Errorf("Flood(%+v, 0): %v", n, got)
	}
	wantHeardBy(t, n, 0, 12+8, 4+36)
	wantPathTo(t, n, 0, 1, 0, 1)
	wantPathTo(t, n, 1, 1, 1)
	// shut, but for one of them
	for _, letters := range []string{"osab", "sobs", "aabo"} {
		n = madeOf(2, pairs(4), letters)
		wantHeardBy(t, n, 0, 0, 1)
		wantHeardBy(t, n, 1, 1, 0)
	}
}

// Of visits that are alike in all numbers each counts, and each is handed on.
func TestFloodCountsWhatIsAlike(t *testing.T) {
	// over 1 and over 2 alike comes to 3; over two links between 3 and 4 it is heard by either port of 4 twice
	n := madeOf(5, linksOf(0, 0, 1, 0, 0, 1, 2, 0, 1, 1, 3, 0, 2, 1, 3, 1, 3, 2, 4, 0, 3, 3, 4, 1), "oooooo")
	got := impl.Flood(n, 0)
	for _, v := range visitsOf(4, 0, 3, 4, 1, 3) {
		count := 0
		for _, other := range got {
			if other == v {
				count++
			}
		}
		if count != 2 {
			t.Errorf("Flood(%+v, 0): %v has %v %d times", n, got, v, count)
		}
	}
	wantPathTo(t, n, 0, 4, 0, 1, 3, 4)
	wantPathTo(t, n, 4, 0, 4, 3, 1, 0)
	// were 2 told first, it would lead there
	slices.Reverse(n.Links)
	wantPathTo(t, n, 0, 4, 0, 1, 3, 4)
	n = madeOf(5, linksOf(0, 1, 1, 0, 0, 0, 2, 0, 1, 1, 3, 0, 2, 1, 3, 1, 3, 2, 4, 0, 3, 3, 4, 1), "oooooo")
	wantPathTo(t, n, 0, 4, 0, 2, 3, 4)
	wantPathTo(t, n, 4, 0, 4, 3, 1, 0)
}

// Neither the Ids, nor the order of the links, nor which end is told first says anything of who hears it.
func TestFloodAsksForPlacesAlone(t *testing.T) {
	for _, s := range shapes {
		letters := "oosoao"
		n := madeOf(s.count, s.links, letters)
		for turn := range 9 {
			other := madeBy(idsOf(s.count, turn), s.links, letters)
			slices.Reverse(other.Links)
			for at, l := range other.Links {
				if (at+turn)%2 == 0 {
					other.Links[at] = impl.Link{A: l.B, P: l.Q, B: l.A, Q: l.P}
				}
			}
			for from := range s.count {
				wantFlood(t, other, from, impl.Flood(n, from)...)
				wantHeardBy(t, other, from, impl.HeardBy(n, from)...)
				for to := range s.count {
					wantPathTo(t, other, from, to, impl.PathTo(n, from, to)...)
				}
			}
		}
	}
}

func TestFloodFromNobody(t *testing.T) {
	for _, s := range shapes {
		for _, letters := range []string{"oooooo", "ssssss"} {
			n := madeOf(s.count, s.links, letters)
			for _, from := range append(slices.Clone(noPlaces), s.count) {
				wantNobodyHears(t, n, from)
			}
			for from := range s.count {
				for _, to := range append(slices.Clone(noPlaces), s.count) {
					wantPathTo(t, n, from, to)
				}
			}
		}
	}
	// neither a number of a link nor an Id is one of a bridge
	n := madeBy([]int{9, 8, 7}, linksOf(2, 0, 1, 0), "o")
	for id := 3; id < 10; id++ {
		wantNobodyHears(t, n, id)
		wantPathTo(t, n, 1, id)
	}
}

func TestFloodOfNoNet(t *testing.T) {
	for _, n := range bentNets() {
		for b := -1; b < 7; b++ {
			for p := -1; p < 6; p++ {
				wantNoneAcross(t, n, b, p)
			}
			wantNobodyHears(t, n, b)
		}
		for _, far := range noPlaces {
			wantNoneAcross(t, n, far, 0)
			wantNoneAcross(t, n, 0, far)
			wantNobodyHears(t, n, far)
		}
	}
	// what is settled, with one thing turned in a bridge that no link is at
	n, _ := impl.NetNew([]int{3, 1, 2}, row(2))
	s := impl.Settle(n, 30)
	wantFlood(t, s, 0, visitsOf(1, 1, 1)...)
	for _, bent := range []impl.Net{bentNet(s, func(n *impl.Net) { n.Bridges[2].Id = 3 }), bentNet(s, func(n *impl.Net) { n.Bridges[2].Ports = nil }), bentNet(s, func(n *impl.Net) { n.Bridges[2].Ports[0] = portFor(impl.RoDes, 0) })} {
		wantNoneAcross(t, bent, 0, 0)
		for from := range 3 {
			wantNobodyHears(t, bent, from)
		}
	}
}

func TestFloodAsTheChapterSays(t *testing.T) {
	for _, s := range shapes {
		turn := 0
		eachMade(s.count, s.links, "", func(n impl.Net, letters string) {
			// each way to be shut is as each other one: of many nets some are enough
			if turn++; len(s.links) > 4 && turn%7 != 0 {
				return
			}
			wantFloodAsPlain(t, n)
			if t.Failed() {
				t.Fatalf("%d bridges, %v: %s", s.count, s.links, letters)
			}
		})
	}
	for _, n := range anyNets(2000) {
		wantFloodAsPlain(t, n)
		wantFloodAsPlain(t, impl.Round(n))
	}
}

// openNet has all of its links open, at any ports.
func openNet(c *chooser) impl.Net {
	n := anyNet(c)
	for _, l := range n.Links {
		n.Bridges[l.A].Ports[l.P], n.Bridges[l.B].Ports[l.Q] = portThatIs(true, c.below(2)), portThatIs(true, c.below(2))
	}
	return n
}

// halfOpenNet has some of its links open, and some shut at one end.
func halfOpenNet(c *chooser) impl.Net {
	n := openNet(c)
	for _, l := range n.Links {
		if c.below(4) == 0 {
			n.Bridges[l.A].Ports[l.P] = portThatIs(false, c.below(4))
		}
	}
	return n
}

// Whatever ring it goes round: as many as MaxVisits, or nobody is left to hand it on to; and all hear it who can be come to.
func TestFloodOfOpenNets(t *testing.T) {
	rings := 0
	for seed := range 3000 {
		n := openNet(&chooser{uint64(seed)})
		wantFloodAsPlain(t, n)
		for from := range n.Bridges {
			list := impl.Flood(n, from)
			if len(list) > impl.MaxVisits || impl.Ringless(n) && len(list) > 4 {
				t.Fatalf("Flood(%+v, %d): %v", n, from, list)
			}
			if len(list) == impl.MaxVisits {
				rings++
			}
			wantVisits(t, n, from, list)
		}
		if t.Failed() {
			t.Fatalf("of %d: %+v", seed, n)
		}
	}
	if rings < 500 {
		t.Errorf("only %d went round", rings)
	}
}

// wantVisits asks of each who heard it that it is where somebody handed it on, and of all that they are who can be come to.
func wantVisits(t *testing.T, n impl.Net, from int, list []impl.Visit) {
	t.Helper()
	heard := []int{from}
	for at, v := range list {
		b, p, ok := impl.Across(n, v.Bridge, v.Port)
		gave := v.Far == 1 && b == from || slices.ContainsFunc(list[:at], func(of impl.Visit) bool { return of.Bridge == b && of.Port != p && of.Far == v.Far-1 })
		if !ok || !gave || at > 0 && v.Far < list[at-1].Far {
			t.Errorf("Flood(%+v, %d): %v at %d of %v", n, from, v, at, list)
		}
		heard = append(heard, v.Bridge)
	}
	slices.Sort(heard)
	if reach := impl.Reach(n, from, false); !slices.Equal(slices.Compact(heard), reach) {
		t.Errorf("Flood(%+v, %d): %v, Reach %v", n, from, list, reach)
	}
}

// wantWay asks that each of a way is linked with the next one by what passes, that none comes twice, and that it is as long as the first visit there is far.
func wantWay(t *testing.T, n impl.Net, from int, to int) {
	t.Helper()
	way, list := impl.PathTo(n, from, to), impl.Flood(n, from)
	at := slices.IndexFunc(list, func(v impl.Visit) bool { return v.Bridge == to })
	switch {
	case from == to:
		wantPathTo(t, n, from, to, from)
		return
	case at < 0:
		wantPathTo(t, n, from, to)
		return
	}
	if len(way) != list[at].Far+1 || way[0] != from || way[len(way)-1] != to {
		t.Errorf("PathTo(%+v, %d, %d): %v, it came there first as %v", n, from, to, way, list[at])
	}
	for at := 1; at < len(way); at++ {
		next := false
		for port := range impl.MaxPorts {
			b, _, ok := impl.Across(n, way[at-1], port)
			next = next || ok && b == way[at]
		}
		if !next || slices.Contains(way[:at], way[at]) {
			t.Errorf("PathTo(%+v, %d, %d): %v goes on at %d by none", n, from, to, way, at)
		}
	}
}

// wantEachOnce asks of a tree that each hears it once, who tells it never, and that the way there is the way back.
func wantEachOnce(t *testing.T, n impl.Net) {
	t.Helper()
	for from := range n.Bridges {
		counts := make([]int, len(n.Bridges))
		for _, to := range impl.Reach(n, from, true) {
			counts[to] = 1
			there, back := impl.PathTo(n, from, to), impl.PathTo(n, to, from)
			slices.Reverse(back)
			if len(there) == 0 || !slices.Equal(there, back) {
				t.Errorf("of %+v: from %d to %d %v, back %v", n, from, to, there, back)
			}
			wantWay(t, n, from, to)
		}
		counts[from] = 0
		wantHeardBy(t, n, from, counts...)
		if list := impl.Flood(n, from); len(list) != len(impl.Reach(n, from, true))-1 {
			t.Errorf("Flood(%+v, %d): %v", n, from, list)
		}
	}
}

func TestOnATreeEachHearsOnce(t *testing.T) {
	for _, n := range slices.Concat(newNets(), anyNets(1500)) {
		s := impl.Settle(n, 30)
		wantIsTree(t, s, true)
		wantEachOnce(t, s)
		wantFloodAsPlain(t, s)
		if t.Failed() {
			t.Fatalf("of %+v", n)
		}
	}
}

// With a link less, and settled again, another tree tells it.
func TestOnATreeWithoutALink(t *testing.T) {
	for _, n := range newNets() {
		s := impl.Settle(n, 30)
		for link := range n.Links {
			less := withoutLink(s, link)
			wantFloodAsPlain(t, less)
			again := impl.Settle(less, 30)
			wantEachOnce(t, again)
			if t.Failed() {
				t.Fatalf("without %d: %+v", link, n)
			}
		}
	}
}

// Ringless is enough: whom what is open joins, hears it once.
func TestWithoutARingNobodyHearsTwice(t *testing.T) {
	rings, trees := 0, 0
	for seed := range 2000 {
		n, twice := halfOpenNet(&chooser{uint64(seed)}), false
		for from := range n.Bridges {
			for to, count := range impl.HeardBy(n, from) {
				twice = twice || count > 1 || to == from && count > 0
				wantWay(t, n, from, to)
			}
		}
		if twice == impl.Ringless(n) {
			t.Fatalf("%+v: Ringless %v", n, !twice)
		}
		rings, trees = rings+oneOf(twice), trees+oneOf(!twice)
	}
	if rings < 50 || trees < 500 {
		t.Errorf("only %d rings, and %d without", rings, trees)
	}
}

// askFlood asks all of the chapter.
func askFlood(n impl.Net) {
	for at := -1; at < 7; at++ {
		impl.Across(n, at, at)
		impl.Across(n, at, 0)
		impl.Across(n, 0, at)
		impl.Flood(n, at)
		impl.HeardBy(n, at)
		for to := -1; to < 7; to++ {
			impl.PathTo(n, at, to)
		}
	}
}

func TestFloodSharesNoMemory(t *testing.T) {
	for _, n := range slices.Concat(newNets(), anyNets(200), bentNets(), []impl.Net{madeOf(5, ring(5), "ooooo"), madeOf(2, pairs(4), "oooo")}) {
		kept := copyNet(n)
		for _, ask := range []func(impl.Net) []int{
			func(n impl.Net) []int { return impl.HeardBy(n, 0) }, func(n impl.Net) []int { return impl.HeardBy(n, -1) },
			func(n impl.Net) []int { return impl.PathTo(n, 0, 0) }, func(n impl.Net) []int { return impl.PathTo(n, 0, len(n.Bridges)-1) }, func(n impl.Net) []int { return impl.PathTo(n, 0, -1) },
		} {
			wantOwnList(t, n, ask, 77)
		}
		wantOwnList(t, n, func(n impl.Net) []impl.Visit { return impl.Flood(n, 0) }, impl.Visit{Bridge: 77})
		wantOwnList(t, n, func(n impl.Net) []impl.Visit { return impl.Flood(n, len(n.Bridges)-1) }, impl.Visit{Bridge: 77})
		if !sameNet(n, kept) {
			t.Fatalf("written into: %+v, was %+v", n, kept)
		}
	}
}

// wantOwnList asks that what is answered shares no memory with what is answered again, nor with what was handed in.
func wantOwnList[T comparable](t *testing.T, n impl.Net, ask func(impl.Net) []T, with T) {
	t.Helper()
	one, two := ask(n), ask(n)
	want := slices.Clone(two)
	scrawl(one, with)
	if !slices.Equal(two, want) || !slices.Equal(ask(n), want) {
		t.Fatalf("it shares memory: %v %v of %+v", two, want, n)
	}
	handed := copyNet(n)
	three := ask(handed)
	scrawlNet(handed)
	if !slices.Equal(three, want) {
		t.Fatalf("what was answered is now %v", three)
	}
}

func TestFloodWritesIntoNoArgument(t *testing.T) {
	// the room behind what is handed in is to stay as it is, too
	for _, wide := range []impl.Net{impl.Settle(crossed(6), 30), crossed(6), madeOf(5, ring(5), "oosoo"), madeOf(5, ring(5), "ooooo")} {
		for at := range wide.Bridges {
			wide.Bridges[at].Ports = append(wide.Bridges[at].Ports, impl.Port{Wait: 9}, portFor(impl.RoDes, 3))
		}
		wide.Bridges = append(wide.Bridges, bridgeOf(7, impl.Port{}), impl.Bridge{Id: 77})
		wide.Links = append(wide.Links, linksOf(2, 3, 4, 2, 9, 9, 9, 9)...)
		kept := copyNet(wide)
		for count := range len(wide.Bridges) + 1 {
			for few := range len(wide.Links) + 1 {
				for ports := range 6 {
					list := slices.Clone(wide.Bridges)
					for at, b := range list {
						list[at].Ports = b.Ports[:min(ports, len(b.Ports))]
					}
					askFlood(impl.Net{Bridges: list[:count], Links: wide.Links[:few]})
					for at, b := range list {
						if b.Id != kept.Bridges[at].Id || len(b.Ports) != min(ports, len(wide.Bridges[at].Ports)) {
							t.Fatalf("written into %d bridges: %+v", count, list)
						}
					}
				}
			}
		}
		if !sameNet(wide, kept) {
			t.Errorf("written into: %+v, was %+v", wide, kept)
		}
	}
	for _, n := range slices.Concat(anyNets(300), bentNets()) {
		kept := copyNet(n)
		askFlood(n)
		if !sameNet(n, kept) {
			t.Fatalf("written into: %+v, was %+v", n, kept)
		}
	}
}

// What was asked ahead of it says nothing: not of another net, not of what goes round.
func TestFloodKeepsNothing(t *testing.T) {
	round, settled := madeOf(5, ring(5), "ooooo"), impl.Settle(ringNet(), 30)
	others := slices.Concat(newNets()[:40], bentNets()[:40], anyNets(40))
	for _, other := range others {
		for _, n := range []impl.Net{round, settled} {
			wantFloodFrom(t, n, 0)
			askFlood(other)
			wantFloodFrom(t, n, 0)
			wantAcross(t, n, 1, 0, plainEnd(n, 1, 0)[0], plainEnd(n, 1, 0)[1])
		}
	}
}

func plainEnd(n impl.Net, b int, p int) [2]int {
	far, port, _ := plainAcross(n, b, p)
	return [2]int{far, port}
}

func TestFloodByManyAtOnce(t *testing.T) {
	nets := []impl.Net{madeOf(5, ring(5), "ooooo"), impl.Settle(ringNet(), 30), madeOf(2, pairs(4), "oooo"), impl.Settle(crossed(6), 30), {}}
	var all sync.WaitGroup
	for range 8 {
		all.Go(func() {
			for range 10 {
				for _, n := range nets {
					wantFloodAsPlain(t, n)
				}
			}
		})
	}
	all.Wait()
}

func FuzzFlood(f *testing.F) {
	f.Add(uint64(1), 0, 0, 0, 1, 0, 0)
	f.Add(uint64(7), 5, 1, 3, 2, 3, 3)
	f.Add(uint64(12), -1, -1, 4, math.MaxInt, math.MinInt, 10)
	f.Add(uint64(23), math.MinInt, 0, 0, 0, 1, 9)
	f.Fuzz(func(t *testing.T, seed uint64, number int, a int, p int, b int, q int, rounds int) {
		c := &chooser{seed}
		right, open := anyNet(c), openNet(c)
		link := impl.Link{A: a, P: p, B: b, Q: q}
		near := impl.Link{A: a & 7, P: p & 3, B: b & 7, Q: q & 3}
		for _, n := range []impl.Net{
			right, open, impl.Settle(right, rounds&15), impl.Settle(open, rounds&15), bentNet(open, func(n *impl.Net) { n.Links = append(n.Links, link) }), bentNet(open, func(n *impl.Net) { n.Links = append(n.Links, near) }),
			bentNet(open, func(n *impl.Net) { n.Bridges[c.below(len(n.Bridges))].Id = number }), bentNet(right, func(n *impl.Net) { n.Bridges = append(n.Bridges, bridgeOf(number, impl.Port{})) }),
		} {
			kept := copyNet(n)
			wantFloodAsPlain(t, n)
			wantFloodFrom(t, n, number)
			wantAcrossAsPlain(t, n, a, p)
			wantAcrossAsPlain(t, n, b, q)
			wantPathTo(t, n, b, number, plainPathTo(n, b, number, plainVisits(n, b))...)
			wantPathTo(t, n, 0, number, plainPathTo(n, 0, number, plainVisits(n, 0))...)
			if !sameNet(n, kept) {
				t.Errorf("was written into: %+v, was %+v", n, kept)
			}
		}
		wantEachOnce(t, impl.Settle(right, 100))
		wantEachOnce(t, impl.Settle(open, 100))
	})
}
