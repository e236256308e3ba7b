package tests

import (
	"math"
	"runtime"
	"slices"
	"sync"
	"testing"
	"time"

	"loop.example/g00470/impl"
)

// linksOf has four numbers a link.
func linksOf(numbers ...int) []impl.Link {
	var list []impl.Link
	for at := 0; at+4 <= len(numbers); at += 4 {
		list = append(list, impl.Link{A: numbers[at], P: numbers[at+1], B: numbers[at+2], Q: numbers[at+3]})
	}
	return list
}

func copyNet(n impl.Net) impl.Net {
	next := impl.Net{Links: slices.Clone(n.Links)}
	for _, b := range n.Bridges {
		next.Bridges = append(next.Bridges, copyBridge(b))
	}
	return next
}

// sameNet asks it without impl.Same.
func sameNet(a impl.Net, b impl.Net) bool {
	return slices.EqualFunc(a.Bridges, b.Bridges, sameBridge) && slices.Equal(a.Links, b.Links)
}

// bentNet is a copy of n with one thing turned.
func bentNet(n impl.Net, turn func(*impl.Net)) impl.Net {
	next := copyNet(n)
	turn(&next)
	return next
}

// withLink is n with one link more, whose ports are made up where they are.
func withLink(n impl.Net, a int, p int, b int, q int) impl.Net {
	next := copyNet(n)
	next.Links = append(next.Links, impl.Link{A: a, P: p, B: b, Q: q})
	for _, e := range [][2]int{{a, p}, {b, q}} {
		if at := &next.Bridges[e[0]].Ports[e[1]]; !at.Up {
			*at = portFor(impl.RoDes, 0)
		}
	}
	return next
}

// shapes are links among so many bridges.
var shapes = []struct {
	count int
	links []impl.Link
}{
	{1, nil},
	{2, nil},
	{5, nil},
	{2, linksOf(0, 0, 1, 0)},
	{2, linksOf(1, 3, 0, 2)},
	// two bridges by several links
	{2, linksOf(0, 0, 1, 0, 0, 1, 1, 1)},
	{2, linksOf(0, 0, 1, 3, 1, 0, 0, 3, 0, 1, 1, 1)},
	{2, linksOf(0, 0, 1, 3, 1, 2, 0, 1, 0, 2, 1, 1, 0, 3, 1, 0)},
	// rows
	{3, linksOf(0, 0, 1, 0, 1, 1, 2, 0)},
	{5, linksOf(0, 0, 1, 0, 1, 1, 2, 0, 2, 1, 3, 0, 3, 1, 4, 0)},
	{5, linksOf(4, 3, 2, 3, 2, 0, 0, 0, 1, 1, 0, 1, 3, 2, 1, 2)},
	// rings
	{3, linksOf(0, 0, 1, 0, 1, 1, 2, 0, 2, 1, 0, 1)},
	{4, linksOf(0, 0, 1, 0, 1, 1, 2, 0, 2, 1, 3, 0, 3, 1, 0, 1)},
	{5, linksOf(0, 0, 1, 0, 1, 1, 2, 0, 2, 1, 3, 0, 3, 1, 4, 0, 4, 1, 0, 1)},
	{5, linksOf(0, 0, 1, 0, 1, 1, 2, 0, 2, 1, 3, 0, 3, 1, 4, 0, 4, 1, 0, 1, 0, 2, 2, 2)},
	// all with one, and each with each
	{5, linksOf(0, 0, 1, 0, 0, 1, 2, 0, 0, 2, 3, 0, 0, 3, 4, 0)},
	{4, linksOf(0, 0, 1, 0, 0, 1, 2, 0, 0, 2, 3, 0, 1, 1, 2, 1, 1, 2, 3, 1, 2, 2, 3, 2)},
	// two rings at one bridge
	{5, linksOf(0, 0, 1, 0, 1, 1, 2, 0, 2, 1, 0, 1, 0, 2, 3, 0, 3, 1, 4, 0, 4, 1, 0, 3)},
	// such as do not all hear each other
	{5, linksOf(0, 0, 1, 0, 2, 0, 3, 0)},
	{5, linksOf(0, 0, 3, 0, 3, 1, 4, 0, 4, 1, 0, 1, 1, 2, 2, 2, 1, 3, 2, 3)},
}

// idsOf tells so many Ids, the least one at each place in turn.
func idsOf(count int, turn int) []int {
	ids := []int{7, 2, 5, 9, 4, 1, 8, 3, 6}
	turn %= len(ids)
	return append(ids[turn:], ids[:turn]...)[:count]
}

// newNets are of all shapes, each with several orders of Ids.
func newNets() []impl.Net {
	var list []impl.Net
	for _, s := range shapes {
		for turn := range 9 {
			n, _ := impl.NetNew(idsOf(s.count, turn), s.links)
			list = append(list, n)
		}
	}
	return list
}

// ringNet is a new ring of three.
func ringNet() impl.Net {
	n, _ := impl.NetNew([]int{7, 2, 5}, linksOf(0, 0, 1, 0, 1, 1, 2, 0, 2, 1, 0, 1))
	return n
}

// anyNet is right, with bridges of few and of many ports, at which all kinds of things are claimed that nobody there says.
func anyNet(c *chooser) impl.Net {
	up, down := append(bareUpPorts(), claimedPorts()...), bareDownPorts()
	count := 1 + c.below(5)
	n := impl.Net{}
	for _, id := range idsOf(count, c.below(9)) {
		b := impl.Bridge{Id: id}
		for range 1 + c.below(4) {
			b.Ports = append(b.Ports, down[c.below(len(down))])
		}
		n.Bridges = append(n.Bridges, b)
	}
	most := c.below(7)
	for range 40 {
		a, b := c.below(count), c.below(count)
		p, q := c.below(len(n.Bridges[a].Ports)), c.below(len(n.Bridges[b].Ports))
		if a == b || len(n.Links) == most || n.Bridges[a].Ports[p].Up || n.Bridges[b].Ports[q].Up {
			continue
		}
		n.Bridges[a].Ports[p] = up[c.below(len(up))]
		n.Bridges[b].Ports[q] = up[c.below(len(up))]
		n.Links = append(n.Links, impl.Link{A: a, P: p, B: b, Q: q})
	}
	return n
}

func anyNets(count int) []impl.Net {
	var list []impl.Net
	for seed := range count {
		list = append(list, anyNet(&chooser{uint64(seed)}))
	}
	return list
}

// crossed has so many links between bridges of four ports, more than MaxLinks if asked.
func crossed(links int) impl.Net {
	all := linksOf(0, 0, 1, 0, 0, 1, 2, 0, 0, 2, 3, 0, 0, 3, 4, 0, 1, 1, 2, 1, 1, 2, 3, 1, 3, 3, 4, 3, 2, 3, 4, 2)
	n := impl.Net{Links: all[:links]}
	for _, id := range []int{4, 3, 9, 1, 6} {
		b, _ := impl.BridgeNew(id, 4)
		n.Bridges = append(n.Bridges, b)
	}
	for _, l := range n.Links {
		n.Bridges[l.A].Ports[l.P] = portFor(impl.RoDes, 0)
		n.Bridges[l.B].Ports[l.Q] = portFor(impl.RoDes, 0)
	}
	return n
}

// noEnds are no bridges of a net of two, nor ports of a bridge.
var noEnds = []int{math.MinInt, math.MinInt + 1, -256, -4, -2, -1, 4, 5, 6, 256, 257, 1 << 32, 1<<32 + 1, math.MaxInt - 1, math.MaxInt}

// bentNets are none, each for one reason or several.
func bentNets() []impl.Net {
	ring, pair := ringNet(), impl.Net{Bridges: []impl.Bridge{upBridge(5, 1, 4), upBridge(2, 1, 4)}, Links: linksOf(0, 0, 1, 0)}
	alone := impl.Net{Bridges: []impl.Bridge{bridgeOf(5, impl.Port{})}}
	list := []impl.Net{
		// no bridge
		{}, {Bridges: []impl.Bridge{}}, {Links: linksOf(0, 0, 1, 0)},
		// too many bridges, or links
		bentNet(crossed(0), func(n *impl.Net) { n.Bridges = append(n.Bridges, bridgeOf(2, impl.Port{})) }), bentNet(crossed(6), func(n *impl.Net) { n.Bridges = append(n.Bridges, bridgeOf(2, impl.Port{})) }),
		crossed(7), crossed(8),
		// two of one Id, linked or not
		bentNet(ring, func(n *impl.Net) { n.Bridges[2].Id = 7 }), bentNet(ring, func(n *impl.Net) { n.Bridges[1].Id = 7 }), bentNet(ring, func(n *impl.Net) { n.Bridges[1].Id = 5 }), bentNet(pair, func(n *impl.Net) { n.Bridges[0].Id = 2 }),
		bentNet(crossed(0), func(n *impl.Net) { n.Bridges[4].Id = 4 }), {Bridges: []impl.Bridge{bridgeOf(5, impl.Port{}), bridgeOf(5, impl.Port{}, impl.Port{})}},
		// a bridge with itself: at two ports, and at one
		withLink(ring, 0, 2, 0, 3), withLink(ring, 1, 2, 1, 2),
		{Bridges: []impl.Bridge{upBridge(5, 2, 0)}, Links: linksOf(0, 0, 0, 1)}, {Bridges: []impl.Bridge{upBridge(5, 1, 0)}, Links: linksOf(0, 0, 0, 0)}, {Bridges: []impl.Bridge{upBridge(5, 2, 0), upBridge(2, 2, 0)}, Links: linksOf(0, 0, 0, 1, 1, 1, 1, 0)},
		// a port that is not Up, at either end, and at both
		bentNet(ring, func(n *impl.Net) { n.Bridges[0].Ports[0] = impl.Port{} }), bentNet(ring, func(n *impl.Net) { n.Bridges[1].Ports[0] = impl.Port{Wait: 4} }), bentNet(ring, func(n *impl.Net) { n.Bridges[2].Ports[0] = impl.Port{} }),
		bentNet(ring, func(n *impl.Net) { n.Bridges[0].Ports[0], n.Bridges[1].Ports[0] = impl.Port{}, impl.Port{} }), bentNet(ring, func(n *impl.Net) { n.Links = append(n.Links, linksOf(0, 2, 1, 2)...) }),
		// a port that is Up and of no link
		bentNet(ring, func(n *impl.Net) { n.Bridges[0].Ports[3] = portFor(impl.RoDes, 4) }), bentNet(ring, func(n *impl.Net) { n.Bridges[2].Ports[2] = portFor(impl.RoAlt, 0) }), bentNet(ring, func(n *impl.Net) { n.Links = n.Links[:2] }), bentNet(ring, func(n *impl.Net) { n.Links = n.Links[1:] }), bentNet(ring, func(n *impl.Net) { n.Links = nil }),
		{Bridges: []impl.Bridge{upBridge(5, 1, 0)}}, {Bridges: []impl.Bridge{upBridge(5, 4, 9), upBridge(2, 4, 9)}}, bentNet(alone, func(n *impl.Net) { n.Bridges[0].Ports[0] = portFor(impl.RoRoot, 0) }),
		// a port of two links: at either end, at one end of one and the other end of another, and one link twice
		bentNet(ring, func(n *impl.Net) { n.Links[1].P = 0 }), bentNet(ring, func(n *impl.Net) { n.Links[2].Q = 0 }), bentNet(ring, func(n *impl.Net) { n.Links[2].P = 0 }),
		withLink(ring, 0, 0, 2, 2), withLink(ring, 2, 2, 0, 0), withLink(ring, 1, 0, 2, 2), withLink(ring, 2, 2, 1, 0),
		bentNet(ring, func(n *impl.Net) { n.Links = append(n.Links, n.Links[0]) }), bentNet(ring, func(n *impl.Net) { n.Links = append(n.Links, linksOf(1, 0, 0, 0)...) }), bentNet(ring, func(n *impl.Net) { n.Links = append(n.Links, linksOf(0, 0, 1, 1)...) }), bentNet(ring, func(n *impl.Net) { n.Links = append(n.Links, n.Links...) }),
		// as many ends as ports that are Up, and all of them are, but one has two and one has none
		bentNet(ring, func(n *impl.Net) { n.Links[0].P = 1 }),
		// a port that others have, and this bridge has not
		bentNet(pair, func(n *impl.Net) { n.Links[0].P = 1 }), bentNet(pair, func(n *impl.Net) { n.Links[0].Q = 1 }), bentNet(pair, func(n *impl.Net) { n.Links = append(n.Links, linksOf(0, 1, 1, 1)...) }),
		// a bridge of too many ports, or of none, all else right
		bentNet(ring, func(n *impl.Net) { n.Bridges[1].Ports = append(n.Bridges[1].Ports, impl.Port{}) }), bentNet(crossed(3), func(n *impl.Net) { n.Bridges[4].Ports = nil }),
		// nobody to be linked with
		bentNet(alone, func(n *impl.Net) { n.Links = linksOf(0, 0, 1, 0) }), bentNet(alone, func(n *impl.Net) { n.Links = linksOf(0, 0, 0, 0) }), bentNet(ring, func(n *impl.Net) { n.Links[1].B = 3 }), bentNet(ring, func(n *impl.Net) { n.Links[2].A = 3 }),
	}
	for _, far := range append(noEnds, 2, 3) {
		for _, turn := range []func(*impl.Link){func(l *impl.Link) { l.A = far }, func(l *impl.Link) { l.B = far }, func(l *impl.Link) { l.P = far }, func(l *impl.Link) { l.Q = far }, func(l *impl.Link) { l.A, l.B = far, far }, func(l *impl.Link) { l.P, l.Q = far, far }} {
			list = append(list, bentNet(pair, func(n *impl.Net) { turn(&n.Links[0]) }))
		}
		// one that names what is not there, beside one that is right
		list = append(list, bentNet(pair, func(n *impl.Net) { n.Links = append(n.Links, linksOf(far, 0, far-1, 0)...) }), bentNet(pair, func(n *impl.Net) { n.Links = append(linksOf(0, far, 1, far), n.Links...) }))
	}
	// a bridge that is none, in each place
	for at, b := range bentBridges() {
		place := at % 3
		list = append(list, bentNet(ring, func(n *impl.Net) { n.Bridges[place] = b }), impl.Net{Bridges: []impl.Bridge{b}})
	}
	return list
}

// plainNetOk, and the plain ones behind it, say again what the chapter says.
func plainNetOk(n impl.Net) bool {
	if len(n.Bridges) == 0 || len(n.Bridges) > 5 || len(n.Links) > 6 {
		return false
	}
	ids, used := map[int]bool{}, map[[2]int]bool{}
	for _, b := range n.Bridges {
		if !plainBridgeOk(b) || ids[b.Id] {
			return false
		}
		ids[b.Id] = true
	}
	for _, l := range n.Links {
		if l.A == l.B {
			return false
		}
		for _, e := range [][2]int{{l.A, l.P}, {l.B, l.Q}} {
			if e[0] < 0 || e[0] >= len(n.Bridges) || e[1] < 0 || e[1] >= len(n.Bridges[e[0]].Ports) || !n.Bridges[e[0]].Ports[e[1]].Up || used[e] {
				return false
			}
			used[e] = true
		}
	}
	for at, b := range n.Bridges {
		for port, p := range b.Ports {
			if p.Up && !used[[2]int{at, port}] {
				return false
			}
		}
	}
	return true
}

func plainNetNew(ids []int, links []impl.Link) (impl.Net, bool) {
	n := impl.Net{Links: slices.Clone(links)}
	for _, id := range ids {
		n.Bridges = append(n.Bridges, impl.Bridge{Id: id, Ports: make([]impl.Port, 4)})
	}
	for _, l := range links {
		for _, e := range [][2]int{{l.A, l.P}, {l.B, l.Q}} {
			if e[0] >= 0 && e[0] < len(ids) {
				n.Bridges[e[0]], _ = plainReact(n.Bridges[e[0]], impl.In{Kind: 3, Port: e[1], Up: true})
			}
		}
	}
	if !plainNetOk(n) {
		return impl.Net{}, false
	}
	return n, true
}

// plainRound has no goroutines: one call behind the other.
func plainRound(n impl.Net) impl.Net {
	next := copyNet(n)
	if !plainNetOk(n) {
		return next
	}
	for at := range next.Bridges {
		var said []impl.Out
		next.Bridges[at], said = plainReact(next.Bridges[at], impl.In{Kind: 2})
		for _, out := range said {
			for _, l := range n.Links {
				switch {
				case out.Kind != 1:
				case l.A == at && l.P == out.Port:
					next.Bridges[l.B], _ = plainReact(next.Bridges[l.B], impl.In{Kind: 1, Port: l.Q, Vec: out.Vec, Hops: out.Hops})
				case l.B == at && l.Q == out.Port:
					next.Bridges[l.A], _ = plainReact(next.Bridges[l.A], impl.In{Kind: 1, Port: l.P, Vec: out.Vec, Hops: out.Hops})
				}
			}
		}
	}
	return next
}

func plainSettle(n impl.Net, rounds int) impl.Net {
	next := copyNet(n)
	for done := 0; done < rounds && done < 100; done++ {
		next = plainRound(next)
	}
	return next
}

func wantNetOk(t *testing.T, n impl.Net, want bool) {
	t.Helper()
	if got := impl.NetOk(n); got != want {
		t.Errorf("NetOk(%+v): %v", n, got)
	}
}

func wantNet(t *testing.T, what string, got impl.Net, want impl.Net) {
	t.Helper()
	if !sameNet(got, want) {
		t.Errorf("%s: %+v, want %+v", what, got, want)
	}
}

func wantNetNew(t *testing.T, ids []int, links []impl.Link) {
	t.Helper()
	want, is := plainNetNew(ids, links)
	if got, ok := impl.NetNew(ids, links); ok != is || !sameNet(got, want) {
		t.Errorf("NetNew(%v, %v): %+v %v, want %+v %v", ids, links, got, ok, want, is)
	}
}

func wantNoNetNew(t *testing.T, ids []int, links []impl.Link) {
	t.Helper()
	if got, ok := impl.NetNew(ids, links); ok || !sameNet(got, impl.Net{}) {
		t.Errorf("NetNew(%v, %v): %+v %v, want none", ids, links, got, ok)
	}
}

// wantRounds holds so many rounds of n, one by one and settled, against what the chapter says.
func wantRounds(t *testing.T, n impl.Net, rounds int) {
	t.Helper()
	now := n
	for done := range rounds {
		wantNet(t, "Settle", impl.Settle(n, done), now)
		next := impl.Round(now)
		wantNet(t, "Round", next, plainRound(now))
		if impl.NetOk(next) != impl.NetOk(n) {
			t.Errorf("Round makes of %+v what is not: %+v", n, next)
		}
		if t.Failed() {
			t.Fatalf("round %d of %+v", done, n)
		}
		now = next
	}
}

func TestNetLimits(t *testing.T) {
	if impl.MaxBridges != 5 || impl.MaxLinks != 6 {
		t.Error(impl.MaxBridges, impl.MaxLinks)
	}
}

func TestNetOk(t *testing.T) {
	for _, n := range slices.Concat(newNets(), anyNets(3000)) {
		wantNetOk(t, n, true)
	}
	for at, n := range bentNets() {
		if impl.NetOk(n) || plainNetOk(n) {
			t.Errorf("%d: NetOk(%+v): %v", at, n, impl.NetOk(n))
		}
	}
}

func TestNetOkOfSoManyBridges(t *testing.T) {
	for count := range 9 {
		n := impl.Net{}
		for id := range count {
			n.Bridges = append(n.Bridges, bridgeOf(id+1, impl.Port{}))
		}
		wantNetOk(t, n, count >= 1 && count <= impl.MaxBridges)
		if count < 2 {
			continue
		}
		// with a link between the first two
		n.Bridges[0].Ports[0], n.Bridges[1].Ports[0], n.Links = portFor(impl.RoDes, 0), portFor(impl.RoDes, 0), linksOf(0, 0, 1, 0)
		wantNetOk(t, n, count <= impl.MaxBridges)
	}
}

func TestNetOkOfSoManyLinks(t *testing.T) {
	for count := range 9 {
		n := crossed(count)
		wantNetOk(t, n, count <= impl.MaxLinks)
		slices.Reverse(n.Links)
		wantNetOk(t, n, count <= impl.MaxLinks)
		// the other way round each link is the same one
		for at, l := range n.Links {
			n.Links[at] = impl.Link{A: l.B, P: l.Q, B: l.A, Q: l.P}
			wantNetOk(t, n, count <= impl.MaxLinks)
		}
	}
}

// Each number of a link of three, and of an Id, at all edges.
func TestNetOkAtItsEdges(t *testing.T) {
	ring := impl.Settle(ringNet(), 2)
	for _, number := range append(slices.Clone(noEnds), 0, 1, 2, 3, 8, 9, 10) {
		for at := range 3 {
			for _, n := range []impl.Net{
				bentNet(ring, func(n *impl.Net) { n.Links[at].A = number }), bentNet(ring, func(n *impl.Net) { n.Links[at].P = number }),
				bentNet(ring, func(n *impl.Net) { n.Links[at].B = number }), bentNet(ring, func(n *impl.Net) { n.Links[at].Q = number }),
				bentNet(ring, func(n *impl.Net) { n.Bridges[at].Id = number }),
			} {
				wantNetOk(t, n, plainNetOk(n))
			}
		}
	}
}

// A port is asked for as the others of its bridge: up where a link ends, and nowhere else.
func TestNetOkOfAnyPort(t *testing.T) {
	ring := ringNet()
	for _, p := range append(goodPorts(), bentPorts()...) {
		for at := range 3 {
			for port := range 4 {
				n := bentNet(ring, func(n *impl.Net) { n.Bridges[at].Ports[port] = p })
				wantNetOk(t, n, plainPortOk(p) && p.Up == (port < 2))
			}
		}
	}
}

func TestNetNew(t *testing.T) {
	des := portFor(impl.RoDes, 4)
	n, ok := impl.NetNew([]int{7, 2, 5}, linksOf(0, 0, 1, 3, 2, 1, 1, 0))
	want := impl.Net{Links: linksOf(0, 0, 1, 3, 2, 1, 1, 0), Bridges: []impl.Bridge{bridgeOf(7, des, impl.Port{}, impl.Port{}, impl.Port{}), bridgeOf(2, des, impl.Port{}, impl.Port{}, des), bridgeOf(5, impl.Port{}, des, impl.Port{}, impl.Port{})}}
	if !ok {
		t.Error("there is no NetNew")
	}
	wantNet(t, "NetNew", n, want)
	for _, s := range shapes {
		for turn := range 9 {
			ids := idsOf(s.count, turn)
			wantNetNew(t, ids, s.links)
			n, ok := impl.NetNew(ids, s.links)
			if !ok || !impl.NetOk(n) || len(n.Bridges) != len(ids) || !slices.Equal(n.Links, s.links) {
				t.Errorf("NetNew(%v, %v): %+v %v", ids, s.links, n, ok)
			}
			for at, b := range n.Bridges {
				if b.Id != ids[at] || len(b.Ports) != impl.MaxPorts {
					t.Errorf("NetNew(%v, %v): bridge %d is %+v", ids, s.links, at, b)
				}
			}
		}
	}
}

func TestNetNewOfIds(t *testing.T) {
	for _, ids := range [][]int{{1}, {9}, {1, 2, 3, 4, 5}, {9, 8, 7, 6, 5}, {3, 1, 2}} {
		if _, ok := impl.NetNew(ids, nil); !ok {
			t.Errorf("no NetNew(%v)", ids)
		}
		wantNetNew(t, ids, nil)
	}
	for _, ids := range [][]int{nil, {}, {1, 1}, {1, 2, 1}, {2, 1, 1}, {9, 2, 3, 4, 9}, {0}, {10}, {1, 0}, {0, 1}, {1, 10}, {-1}, {1, -1}, {0, 0}, {1, 2, 3, 4, 5, 6}, {1, 2, 3, 4, 5, 5}, {0, 0, 0, 0, 0, 0}, {1, 2, 3, 4, 5, 6, 7, 8, 9}, make([]int, 100000), {math.MinInt}, {math.MaxInt}, {257}, {1<<32 + 1}, {1, math.MaxInt}} {
		wantNoNetNew(t, ids, nil)
		wantNoNetNew(t, ids, linksOf(0, 0, 1, 0))
	}
	// a link between them makes no Id out of one that is none
	wantNoNetNew(t, []int{0, 1}, linksOf(0, 0, 1, 0))
	wantNoNetNew(t, []int{1, 1}, linksOf(0, 0, 1, 0))
	wantNoNetNew(t, []int{1, 2, 10}, linksOf(0, 0, 1, 0, 1, 1, 2, 0))
}

func TestNetNewOfLinks(t *testing.T) {
	for _, links := range [][]impl.Link{
		// a bridge with itself
		linksOf(0, 0, 0, 1), linksOf(1, 2, 1, 2), linksOf(0, 0, 1, 0, 1, 1, 1, 2),
		// a port of two links
		linksOf(0, 0, 1, 0, 0, 0, 1, 1), linksOf(0, 0, 1, 0, 0, 1, 1, 0), linksOf(0, 0, 1, 0, 1, 0, 2, 0), linksOf(0, 0, 1, 0, 2, 0, 0, 0), linksOf(0, 0, 1, 0, 0, 0, 1, 0), linksOf(0, 0, 1, 0, 1, 0, 0, 0), linksOf(0, 0, 1, 0, 1, 1, 2, 0, 2, 1, 0, 0), linksOf(0, 3, 1, 3, 1, 2, 2, 3, 2, 2, 1, 3),
		// a bridge or a port that is none
		linksOf(0, 0, 3, 0), linksOf(3, 0, 0, 0), linksOf(-1, 0, 0, 0), linksOf(0, 0, -1, 0), linksOf(0, 4, 1, 0), linksOf(0, 0, 1, 4), linksOf(0, -1, 1, 0), linksOf(0, 0, 1, -1), linksOf(3, 0, 4, 0), linksOf(0, 4, 1, 4), linksOf(0, 0, 1, 0, 1, 1, 5, 0), linksOf(5, 5, 5, 5),
		// more than MaxLinks, though their ports are there
		linksOf(0, 0, 1, 0, 0, 1, 1, 1, 0, 2, 2, 0, 0, 3, 2, 1, 1, 2, 2, 2, 1, 3, 2, 3, 0, 0, 1, 0), make([]impl.Link, 7), make([]impl.Link, 100000),
	} {
		wantNoNetNew(t, []int{7, 2, 5}, links)
	}
	for _, far := range append(slices.Clone(noEnds), 3) {
		wantNoNetNew(t, []int{7, 2, 5}, linksOf(far, 0, 0, 0))
		wantNoNetNew(t, []int{7, 2, 5}, linksOf(0, 0, far, 0))
		wantNoNetNew(t, []int{7, 2, 5}, linksOf(0, 0, 1, 0, far, far, far, far))
		if far != 3 {
			wantNoNetNew(t, []int{7, 2, 5}, linksOf(0, far, 1, 0))
			wantNoNetNew(t, []int{7, 2, 5}, linksOf(0, 0, 1, far))
		}
	}
	// of five, seven links with a port of its own at each end are one too many
	seven := crossed(7).Links
	wantNoNetNew(t, []int{4, 3, 9, 1, 6}, seven)
	wantNetNew(t, []int{4, 3, 9, 1, 6}, seven[:6])
	if _, ok := impl.NetNew([]int{4, 3, 9, 1, 6}, seven[:6]); !ok {
		t.Error("MaxLinks links are refused")
	}
}

func TestNetNewAsTheChapterSays(t *testing.T) {
	c := &chooser{3}
	made := 0
	for range 20000 {
		ids := idsOf(1+c.below(6), c.below(9))
		if c.below(10) == 0 {
			ids[c.below(len(ids))] = c.below(12) - 1
		}
		var links []impl.Link
		for range c.below(4) {
			links = append(links, impl.Link{A: c.below(len(ids)), P: c.below(4), B: c.below(len(ids)), Q: c.below(4)})
		}
		if len(links) > 0 && c.below(10) == 0 {
			links[c.below(len(links))] = impl.Link{A: c.below(8) - 1, P: c.below(7) - 1, B: c.below(8) - 1, Q: c.below(7) - 1}
		}
		wantNetNew(t, ids, links)
		if _, ok := impl.NetNew(ids, links); ok {
			made++
		}
	}
	if made < 1000 {
		t.Errorf("only %d were made", made)
	}
}

func TestRoundOfNoNet(t *testing.T) {
	for _, n := range bentNets() {
		kept := copyNet(n)
		wantNet(t, "Round", impl.Round(n), kept)
		for _, rounds := range []int{-1, 0, 1, 3, 100, 101} {
			wantNet(t, "Settle", impl.Settle(n, rounds), kept)
		}
	}
}

// One alone has no port that is up: nothing is told it, and nobody hears it.
func TestRoundOfOne(t *testing.T) {
	n, _ := impl.NetNew([]int{3}, nil)
	wantNet(t, "Round", impl.Round(n), n)
	down := impl.Net{Bridges: []impl.Bridge{bridgeOf(3, impl.Port{Wait: 3}, impl.Port{})}}
	wantNet(t, "Round", impl.Round(down), down)
	// each of several that are not linked is as alone
	many, _ := impl.NetNew([]int{3, 1, 2, 9, 8}, nil)
	wantNet(t, "Settle", impl.Settle(many, 50), many)
}

// The first one speaks ahead of the tick of the second one, so what that one heard fades with its own tick; not so the other way round.
func TestRoundOfTwo(t *testing.T) {
	links := linksOf(0, 0, 1, 0)
	told, root := vecOf(5, 0, 5, 0), vecOf(2, 0, 2, 0)
	now, _ := impl.NetNew([]int{5, 2}, links)
	for _, want := range [][2]impl.Port{
		{withClaim(portFor(impl.RoRoot, 3), root, 0, 3), withClaim(portFor(impl.RoDes, 3), told, 0, 2)},
		{withClaim(portFor(impl.RoRoot, 2), root, 0, 3), withClaim(portFor(impl.RoDes, 2), told, 0, 1)},
		{withClaim(portFor(impl.RoRoot, 1), root, 0, 3), portFor(impl.RoDes, 1)},
		{withClaim(portFor(impl.RoRoot, 0), root, 0, 3), portFor(impl.RoDes, 0)},
		{withClaim(portFor(impl.RoRoot, 0), root, 0, 3), portFor(impl.RoDes, 0)},
	} {
		now = impl.Round(now)
		wantNet(t, "Round", now, impl.Net{Links: links, Bridges: []impl.Bridge{bridgeOf(5, want[0], impl.Port{}, impl.Port{}, impl.Port{}), bridgeOf(2, want[1], impl.Port{}, impl.Port{}, impl.Port{})}})
	}
	// where the least one speaks first, the other one, which then leads to it, has nothing to claim there any more
	now, _ = impl.NetNew([]int{2, 5}, linksOf(1, 3, 0, 1))
	for _, want := range [][2]impl.Port{
		{portFor(impl.RoDes, 3), withClaim(portFor(impl.RoRoot, 3), vecOf(2, 0, 2, 1), 0, 2)},
		{portFor(impl.RoDes, 2), withClaim(portFor(impl.RoRoot, 2), vecOf(2, 0, 2, 1), 0, 2)},
	} {
		now = impl.Round(now)
		wantNet(t, "Round", now, impl.Net{Links: linksOf(1, 3, 0, 1), Bridges: []impl.Bridge{bridgeOf(2, impl.Port{}, want[0], impl.Port{}, impl.Port{}), bridgeOf(5, impl.Port{}, impl.Port{}, impl.Port{}, want[1])}})
	}
}

// Two links between two: what is said at each port is heard at the other end of that link, and what is heard first counts first.
func TestRoundOfTwoLinks(t *testing.T) {
	n, _ := impl.NetNew([]int{2, 5}, linksOf(0, 0, 1, 3, 1, 0, 0, 3))
	low, high := vecOf(2, 0, 2, 0), vecOf(2, 0, 2, 3)
	want := impl.Net{Links: n.Links, Bridges: []impl.Bridge{
		bridgeOf(2, portFor(impl.RoDes, 3), impl.Port{}, impl.Port{}, portFor(impl.RoDes, 3)),
		bridgeOf(5, withClaim(portFor(impl.RoAlt, 0), high, 0, 2), impl.Port{}, impl.Port{}, withClaim(portFor(impl.RoRoot, 3), low, 0, 2)),
	}}
	wantNet(t, "Round", impl.Round(n), want)
	// in order: port 3 is told ahead of port 0, so it leads on; were it told behind it, it would have been shut for a ring, and wait anew
	n.Bridges[1].Ports[3] = withClaim(portFor(impl.RoRoot, 1), vecOf(2, 1, 4, 0), 1, 3)
	want.Bridges[1].Ports[3] = withClaim(portFor(impl.RoRoot, 0), low, 0, 2)
	wantNet(t, "Round", impl.Round(n), want)
}

// Hops and Cost are handed on as they are said, one more at each bridge, in one round down the row.
func TestRoundOfARow(t *testing.T) {
	n, _ := impl.NetNew([]int{1, 3, 2, 9, 4}, linksOf(0, 0, 1, 0, 1, 1, 2, 0, 2, 1, 3, 0, 3, 1, 4, 0))
	r := impl.Round(n)
	said := []impl.Vec{vecOf(1, 0, 1, 0), vecOf(1, 1, 3, 1), vecOf(1, 2, 2, 1), vecOf(1, 3, 9, 1)}
	for at := 1; at < 5; at++ {
		want := withClaim(portFor(impl.RoRoot, 3), said[at-1], at-1, 2)
		if r.Bridges[at].Ports[0] != want {
			t.Errorf("bridge %d: %+v, want %+v", at, r.Bridges[at].Ports[0], want)
		}
	}
	// up the row it takes a round each
	n, _ = impl.NetNew([]int{4, 9, 2, 3, 1}, linksOf(0, 0, 1, 0, 1, 1, 2, 0, 2, 1, 3, 0, 3, 1, 4, 0))
	for round := 1; round <= 4; round++ {
		n = impl.Round(n)
		for at := range 4 {
			if v := impl.Own(n.Bridges[at], 0); (v.Root == 1) != (4-at <= round) {
				t.Errorf("round %d: bridge %d says %v", round, at, v)
			}
		}
	}
}

func TestRoundOfARing(t *testing.T) {
	n := ringNet()
	down := impl.Port{}
	first := impl.Net{Links: n.Links, Bridges: []impl.Bridge{
		bridgeOf(7, withClaim(portFor(impl.RoRoot, 3), vecOf(2, 0, 2, 0), 0, 3), withClaim(portFor(impl.RoAlt, 0), vecOf(2, 1, 5, 1), 1, 3), down, down),
		bridgeOf(2, withClaim(portFor(impl.RoDes, 3), vecOf(7, 0, 7, 0), 0, 2), portFor(impl.RoDes, 3), down, down),
		bridgeOf(5, withClaim(portFor(impl.RoRoot, 3), vecOf(2, 0, 2, 1), 0, 2), withClaim(portFor(impl.RoDes, 3), vecOf(7, 0, 7, 1), 0, 2), down, down),
	}}
	wantNet(t, "Round", impl.Round(n), first)
	wantNet(t, "Settle", impl.Settle(n, 1), first)
	last := impl.Net{Links: n.Links, Bridges: []impl.Bridge{
		bridgeOf(7, withClaim(portFor(impl.RoRoot, 0), vecOf(2, 0, 2, 0), 0, 3), withClaim(portFor(impl.RoAlt, 0), vecOf(2, 1, 5, 1), 1, 3), down, down),
		bridgeOf(2, portFor(impl.RoDes, 0), portFor(impl.RoDes, 0), down, down),
		bridgeOf(5, withClaim(portFor(impl.RoRoot, 0), vecOf(2, 0, 2, 1), 0, 2), portFor(impl.RoDes, 0), down, down),
	}}
	wantNet(t, "Settle", impl.Settle(n, 4), last)
	wantNet(t, "Settle", impl.Settle(n, 100), last)
	if sameNet(impl.Settle(n, 3), last) {
		t.Error("it is settled ahead of Delay")
	}
}

func TestRoundAsTheChapterSays(t *testing.T) {
	for _, n := range newNets() {
		wantRounds(t, n, 12)
	}
	for _, n := range anyNets(1500) {
		wantRounds(t, n, 4)
	}
}

func TestSettle(t *testing.T) {
	nets := slices.Concat(newNets(), anyNets(100))
	for at := 0; at < len(nets); at += 5 {
		n := nets[at]
		for _, rounds := range []int{math.MinInt, math.MinInt + 1, -100, -1, 0} {
			wantNet(t, "Settle", impl.Settle(n, rounds), n)
		}
		wantNet(t, "Settle", impl.Settle(n, 1), impl.Round(n))
		wantNet(t, "Settle", impl.Settle(n, 2), impl.Round(impl.Round(n)))
		wantNet(t, "Settle", impl.Settle(impl.Settle(n, 3), 4), impl.Settle(n, 7))
		most := plainSettle(n, 100)
		for _, rounds := range []int{99, 100, 101, 256, 1 << 32, math.MaxInt - 1, math.MaxInt} {
			wantNet(t, "Settle", impl.Settle(n, rounds), plainSettle(n, rounds))
			if rounds >= 100 {
				wantNet(t, "Settle", impl.Settle(n, rounds), most)
			}
		}
	}
}

// farFrom tells of each bridge who is the least that it is linked with over some, and over how many.
func farFrom(n impl.Net) (least []int, far []int) {
	count := len(n.Bridges)
	for at := range n.Bridges {
		ways := slices.Repeat([]int{count}, count)
		ways[at] = 0
		for range count {
			for _, l := range n.Links {
				ways[l.A] = min(ways[l.A], ways[l.B]+1)
				ways[l.B] = min(ways[l.B], ways[l.A]+1)
			}
		}
		best := at
		for other, b := range n.Bridges {
			if ways[other] < count && b.Id < n.Bridges[best].Id {
				best = other
			}
		}
		least, far = append(least, n.Bridges[best].Id), append(far, ways[best])
	}
	return least, far
}

// wantSettled asks that n is quiet, and that each bridge tells at each port who is the least, and how far that is.
func wantSettled(t *testing.T, n impl.Net) {
	t.Helper()
	wantNet(t, "Round of what is quiet", impl.Round(n), n)
	if !impl.Same(impl.Round(n), n) {
		t.Errorf("Same(Round(%+v)): false", n)
	}
	least, far := farFrom(n)
	for at, b := range n.Bridges {
		for port := range b.Ports {
			wantOwn(t, b, port, vecOf(least[at], far[at], b.Id, port))
		}
		wantHops(t, b, far[at])
		if _, leads := impl.RootPort(b); leads == (least[at] == b.Id) {
			t.Errorf("bridge %d of %+v leads: %v", at, n, leads)
		}
	}
	for at, l := range n.Links {
		a, b := n.Bridges[l.A].Ports[l.P], n.Bridges[l.B].Ports[l.Q]
		if (a.Role == impl.RoDes) == (b.Role == impl.RoDes) {
			t.Errorf("link %d of %+v is told by none or by both", at, n)
		}
	}
}

func TestSettledTellsHowFarTheRootIs(t *testing.T) {
	for _, n := range newNets() {
		s := impl.Settle(n, 30)
		wantSettled(t, s)
		if t.Failed() {
			t.Fatalf("of %+v", n)
		}
	}
}

// Whatever was claimed there ahead of it, by whom there is not: it fades, and all is as of new ones.
func TestAnyNetSettles(t *testing.T) {
	for seed, n := range anyNets(1500) {
		s := impl.Settle(n, 30)
		wantSettled(t, s)
		if t.Failed() {
			t.Fatalf("of %d: %+v", seed, n)
		}
		for _, b := range s.Bridges {
			for _, p := range b.Ports {
				if p.Up && p.Wait != 0 {
					t.Fatalf("it still waits: %+v", s)
				}
			}
		}
	}
}

func TestWhatIsQuietStays(t *testing.T) {
	quiet := 0
	for _, n := range slices.Concat(newNets(), anyNets(300)) {
		s := impl.Settle(n, 20)
		if !impl.Same(impl.Round(s), s) {
			continue
		}
		quiet++
		for _, rounds := range []int{1, 2, 7, 100} {
			wantNet(t, "Settle of what is quiet", impl.Settle(s, rounds), s)
		}
	}
	if quiet < 400 {
		t.Errorf("only %d are quiet", quiet)
	}
}

// numbersTurned are nets that are unlike n by one number or flag, each.
func numbersTurned(n impl.Net) []impl.Net {
	var list []impl.Net
	for at, b := range n.Bridges {
		list = append(list, bentNet(n, func(n *impl.Net) { n.Bridges[at].Id++ }))
		for port := range b.Ports {
			for _, turn := range []func(*impl.Port){
				func(p *impl.Port) { p.Up = !p.Up }, func(p *impl.Port) { p.Has = !p.Has }, func(p *impl.Port) { p.Open = !p.Open },
				func(p *impl.Port) { p.Vec.Root++ }, func(p *impl.Port) { p.Vec.Cost-- }, func(p *impl.Port) { p.Vec.Bridge++ }, func(p *impl.Port) { p.Vec.Port-- },
				func(p *impl.Port) { p.Hops++ }, func(p *impl.Port) { p.Left += 256 }, func(p *impl.Port) { p.Role-- }, func(p *impl.Port) { p.Wait += 1 << 32 },
			} {
				list = append(list, bentNet(n, func(n *impl.Net) { turn(&n.Bridges[at].Ports[port]) }))
			}
		}
	}
	for at := range n.Links {
		list = append(list,
			bentNet(n, func(n *impl.Net) { n.Links[at].A++ }), bentNet(n, func(n *impl.Net) { n.Links[at].P-- }),
			bentNet(n, func(n *impl.Net) { n.Links[at].B += 256 }), bentNet(n, func(n *impl.Net) { n.Links[at].Q += 1 << 32 }))
	}
	return list
}

func TestSame(t *testing.T) {
	nets := slices.Concat(newNets()[:40], anyNets(60), bentNets()[:80])
	for i, a := range nets {
		if !impl.Same(a, a) || !impl.Same(a, copyNet(a)) {
			t.Errorf("Same(%+v) of itself: false", a)
		}
		for j, b := range nets {
			if got := impl.Same(a, b); got != sameNet(a, b) {
				t.Errorf("Same of %d and %d: %v", i, j, got)
			}
		}
	}
	for _, n := range []impl.Net{impl.Settle(ringNet(), 3), impl.Settle(crossed(6), 2), {Bridges: []impl.Bridge{{Id: -1}}}} {
		others := append(numbersTurned(n),
			// one fewer, of each list, and one more
			impl.Net{}, impl.Net{Bridges: n.Bridges}, impl.Net{Links: n.Links, Bridges: n.Bridges[1:]}, impl.Net{Links: n.Links, Bridges: n.Bridges[:len(n.Bridges)-1]},
			bentNet(n, func(n *impl.Net) { n.Bridges[0].Ports = append(n.Bridges[0].Ports, impl.Port{}) }), bentNet(n, func(n *impl.Net) { n.Bridges = append(n.Bridges, impl.Bridge{}) }), bentNet(n, func(n *impl.Net) { n.Links = append(n.Links, impl.Link{}) }),
			bentNet(n, func(n *impl.Net) { n.Bridges[len(n.Bridges)-1].Ports = nil }), impl.Net{Links: n.Links[:max(len(n.Links)-1, 0)], Bridges: n.Bridges})
		for _, other := range others {
			if want := sameNet(n, other); impl.Same(n, other) != want || impl.Same(other, n) != want {
				t.Errorf("Same(%+v, %+v): %v", n, other, !want)
			}
		}
	}
	// the same ones in another order, and a link told from its other end, are others
	ring := ringNet()
	for _, other := range []impl.Net{bentNet(ring, func(n *impl.Net) { slices.Reverse(n.Links) }), bentNet(ring, func(n *impl.Net) { slices.Reverse(n.Bridges) }), bentNet(ring, func(n *impl.Net) { n.Links[0] = linksOf(1, 0, 0, 0)[0] })} {
		if impl.Same(ring, other) || impl.Same(other, ring) {
			t.Errorf("Same(%+v, %+v): true", ring, other)
		}
	}
}

// No list and an empty one are the same.
func TestSameOfEmptyLists(t *testing.T) {
	full := impl.Net{Bridges: []impl.Bridge{{Id: 1, Ports: []impl.Port{}}}, Links: []impl.Link{}}
	none := impl.Net{Bridges: []impl.Bridge{{Id: 1}}}
	if !impl.Same(full, none) || !impl.Same(none, full) || !impl.Same(impl.Net{}, impl.Net{Bridges: []impl.Bridge{}, Links: []impl.Link{}}) {
		t.Error("an empty list is not none")
	}
	alone := impl.Net{Bridges: []impl.Bridge{bridgeOf(1, impl.Port{})}, Links: []impl.Link{}}
	if !impl.NetOk(alone) || !impl.Same(impl.Round(alone), impl.Net{Bridges: alone.Bridges}) {
		t.Error("an empty list of links is not none")
	}
}

// scrawlNet writes over all of a net, and behind its lists as far as there is room.
func scrawlNet(n impl.Net) {
	for _, b := range n.Bridges {
		scrawl(b.Ports, impl.Port{Wait: 77})
	}
	scrawl(n.Bridges, impl.Bridge{Id: 77})
	scrawl(n.Links, impl.Link{A: 77})
}

// wantApart writes over the ports of one bridge after the other, and asks that those of no other one turn.
func wantApart(t *testing.T, n impl.Net) {
	t.Helper()
	for at, b := range n.Bridges {
		kept := copyNet(n)
		scrawl(b.Ports, impl.Port{Wait: 77})
		for other := range n.Bridges {
			if other != at && !sameBridge(n.Bridges[other], kept.Bridges[other]) {
				t.Fatalf("bridges %d and %d share memory: %+v", at, other, n)
			}
		}
	}
}

func TestNetSharesNoMemory(t *testing.T) {
	for _, n := range slices.Concat(newNets()[:60], anyNets(100), bentNets()) {
		kept := copyNet(n)
		for _, answer := range []func() impl.Net{
			func() impl.Net { return impl.Round(n) }, func() impl.Net { return impl.Settle(n, -1) }, func() impl.Net { return impl.Settle(n, 0) },
			func() impl.Net { return impl.Settle(n, 1) }, func() impl.Net { return impl.Settle(n, 5) },
		} {
			one, two := answer(), answer()
			want := copyNet(two)
			wantApart(t, answer())
			scrawlNet(one)
			if !sameNet(n, kept) || !sameNet(two, want) {
				t.Fatalf("it shares memory: %+v, was %+v", n, kept)
			}
		}
	}
}

// What is answered shares none with what was handed in, though that is one list at two bridges.
func TestNetOfOneListOfPorts(t *testing.T) {
	ports := []impl.Port{portFor(impl.RoDes, 2), {Wait: 1}, {}}
	kept := slices.Clone(ports)
	n := impl.Net{Bridges: []impl.Bridge{{Id: 5, Ports: ports}, {Id: 2, Ports: ports}}, Links: linksOf(0, 0, 1, 0)}
	wantNetOk(t, n, true)
	wantRounds(t, n, 6)
	wantApart(t, impl.Round(n))
	wantApart(t, impl.Settle(n, 0))
	bent := impl.Net{Bridges: n.Bridges}
	wantNetOk(t, bent, false)
	wantApart(t, impl.Round(bent))
	wantApart(t, impl.Settle(bent, 3))
	if !slices.Equal(ports, kept) {
		t.Errorf("written into: %+v, was %+v", ports, kept)
	}
}

func TestNetNewSharesNoMemory(t *testing.T) {
	ids, links := []int{7, 2, 5, 9, 4, 1}, linksOf(0, 0, 1, 0, 1, 1, 2, 0, 2, 1, 0, 1, 3, 0, 4, 0)
	keptIds, keptLinks := slices.Clone(ids), slices.Clone(links)
	for count := range 7 {
		for few := range 5 {
			one, _ := impl.NetNew(ids[:count], links[:few])
			two, _ := impl.NetNew(ids[:count], links[:few])
			three, _ := impl.NetNew(ids[:count], links[:few])
			want := copyNet(two)
			wantApart(t, three)
			scrawlNet(one)
			if !slices.Equal(ids, keptIds) || !slices.Equal(links, keptLinks) || !sameNet(two, want) {
				t.Fatalf("it shares memory: %v %v", ids, links)
			}
			scrawl(ids, 77)
			scrawl(links, impl.Link{A: 77})
			if !sameNet(two, want) {
				t.Fatalf("what was answered is now %+v", two)
			}
			copy(ids, keptIds)
			copy(links, keptLinks)
		}
	}
}

func TestNetWritesIntoNoArgument(t *testing.T) {
	// the room behind what is handed in is to stay as it is, too
	wide := impl.Settle(crossed(6), 2)
	for at := range wide.Bridges {
		wide.Bridges[at].Ports = append(wide.Bridges[at].Ports, impl.Port{Wait: 9}, portFor(impl.RoDes, 3))
	}
	wide.Bridges = append(wide.Bridges, bridgeOf(7, impl.Port{}), impl.Bridge{Id: 77})
	wide.Links = append(wide.Links, linksOf(2, 3, 4, 2, 9, 9, 9, 9)...)
	kept := copyNet(wide)
	for count := range len(wide.Bridges) + 1 {
		for few := range len(wide.Links) + 1 {
			for ports := range 6 {
				n := impl.Net{Links: wide.Links[:few]}
				list := slices.Clone(wide.Bridges)
				for at, b := range list {
					list[at].Ports = b.Ports[:min(ports, len(b.Ports))]
				}
				n.Bridges = list[:count]
				impl.NetOk(n)
				impl.Round(n)
				impl.Settle(n, 3)
				impl.Same(n, wide)
				impl.Same(wide, n)
				if !slices.EqualFunc(list[count:], kept.Bridges[count:], func(a impl.Bridge, b impl.Bridge) bool { return a.Id == b.Id }) {
					t.Fatalf("written behind %d bridges: %+v", count, list)
				}
			}
		}
	}
	if !sameNet(wide, kept) {
		t.Errorf("written into: %+v, was %+v", wide, kept)
	}
}

// However goroutines run: alone, or beside many others, on one core and on all.
func TestNetAnswersTheSameAtEveryRun(t *testing.T) {
	defer runtime.GOMAXPROCS(runtime.GOMAXPROCS(0))
	nets := []impl.Net{ringNet(), impl.Settle(crossed(6), 1), anyNet(&chooser{5}), anyNet(&chooser{11}), newNets()[16*9], newNets()[17*9+4]}
	for _, cores := range []int{1, 2, 8} {
		runtime.GOMAXPROCS(cores)
		for _, n := range nets {
			one, some := plainRound(n), plainSettle(n, 9)
			var all sync.WaitGroup
			for range 8 {
				all.Add(1)
				go func() {
					defer all.Done()
					for range 30 {
						if !sameNet(impl.Round(n), one) || !sameNet(impl.Settle(n, 9), some) {
							t.Error("another answer")
						}
					}
				}()
			}
			all.Wait()
			if t.Failed() {
				t.Fatalf("%d cores, of %+v", cores, n)
			}
		}
	}
}

// All are joined: none of those that a call started stays.
func TestNetLeavesNobodyBehind(t *testing.T) {
	before := runtime.NumGoroutine()
	for _, n := range slices.Concat(newNets(), bentNets()) {
		impl.Settle(n, 3)
	}
	// one that is done may still be seen for a moment
	for range 200 {
		if runtime.NumGoroutine() <= before {
			return
		}
		time.Sleep(5 * time.Millisecond)
	}
	t.Errorf("%d goroutines, there were %d", runtime.NumGoroutine(), before)
}

func FuzzMany(f *testing.F) {
	f.Add(uint64(1), 0, 0, 1, 0, 1, 3)
	f.Add(uint64(7), 1, 3, 2, 3, 0, 100)
	f.Add(uint64(12), -1, 4, math.MaxInt, math.MinInt, 10, -1)
	f.Add(uint64(23), 0, 0, 0, 1, 9, math.MaxInt)
	f.Fuzz(func(t *testing.T, seed uint64, a int, p int, b int, q int, id int, rounds int) {
		c := &chooser{seed}
		right := anyNet(c)
		link := impl.Link{A: a, P: p, B: b, Q: q}
		near := impl.Link{A: a & 7, P: p & 3, B: b & 7, Q: q & 3}
		nets := []impl.Net{
			right, bentNet(right, func(n *impl.Net) { n.Links = append(n.Links, link) }), bentNet(right, func(n *impl.Net) { n.Links = append(n.Links, near) }),
			bentNet(right, func(n *impl.Net) { n.Bridges[c.below(len(n.Bridges))].Id = id }), bentNet(right, func(n *impl.Net) { n.Bridges = append(n.Bridges, bridgeOf(id, impl.Port{})) }),
		}
		for _, n := range nets {
			kept := copyNet(n)
			wantNetOk(t, n, plainNetOk(n))
			wantNet(t, "Round", impl.Round(n), plainRound(n))
			wantNet(t, "Settle", impl.Settle(n, rounds), plainSettle(n, rounds))
			wantNet(t, "Settle", impl.Settle(n, rounds&7), plainSettle(n, rounds&7))
			for _, other := range nets {
				if impl.Same(n, other) != sameNet(n, other) {
					t.Errorf("Same(%+v, %+v): %v", n, other, impl.Same(n, other))
				}
			}
			if !sameNet(n, kept) {
				t.Errorf("was written into: %+v, was %+v", n, kept)
			}
		}
		wantSettled(t, impl.Settle(right, 100))
		ids := idsOf(1+c.below(6), c.below(9))
		wantNetNew(t, ids, []impl.Link{link})
		wantNetNew(t, ids, []impl.Link{near, {A: 0, P: 3, B: 1, Q: 3}})
		wantNetNew(t, append(ids, id), []impl.Link{near})
	})
}
