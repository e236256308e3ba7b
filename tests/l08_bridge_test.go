package tests

import (
	"math"
	"slices"
	"testing"

	"loop.example/g00470/impl"
)

func bridgeOf(id int, ports ...impl.Port) impl.Bridge {
	return impl.Bridge{Id: id, Ports: ports}
}

func copyBridge(b impl.Bridge) impl.Bridge {
	return impl.Bridge{Id: b.Id, Ports: slices.Clone(b.Ports)}
}

func sameBridge(a impl.Bridge, b impl.Bridge) bool {
	return a.Id == b.Id && slices.Equal(a.Ports, b.Ports)
}

func tickIn() impl.In { return impl.In{Kind: impl.InTick} }

func linkIn(port int, up bool) impl.In { return impl.In{Kind: impl.InLink, Port: port, Up: up} }

func claimIn(port int, v impl.Vec, hops int) impl.In {
	return impl.In{Kind: impl.InClaim, Port: port, Vec: v, Hops: hops}
}

func gateOut(port int, on bool) impl.Out { return impl.Out{Kind: impl.OuGate, Port: port, On: on} }

func claimOut(port int, v impl.Vec, hops int) impl.Out {
	return impl.Out{Kind: impl.OuClaim, Port: port, Vec: v, Hops: hops}
}

// afterAll is b once all of these came in.
func afterAll(b impl.Bridge, list ...impl.In) impl.Bridge {
	for _, x := range list {
		b, _ = impl.React(b, x)
	}
	return b
}

// upBridge is new, with all of its ports up, for so many ticks.
func upBridge(id int, ports int, ticks int) impl.Bridge {
	b, _ := impl.BridgeNew(id, ports)
	for port := range ports {
		b = afterAll(b, linkIn(port, true))
	}
	return afterAll(b, slices.Repeat([]impl.In{tickIn()}, ticks)...)
}

// goodBridges have ports of all kinds, most of them for what nothing at the bridge asks.
func goodBridges() []impl.Bridge {
	var list []impl.Bridge
	ports := goodPorts()
	at := 0
	for id := 1; id <= 9; id++ {
		for count := 1; count <= 4; count++ {
			for range 25 {
				b := impl.Bridge{Id: id}
				for range count {
					b.Ports = append(b.Ports, ports[at%len(ports)])
					at += 577
				}
				list = append(list, b)
			}
		}
	}
	return append(list, bridgeOf(1, impl.Port{}), bridgeOf(9, impl.Port{}, impl.Port{}, impl.Port{}, impl.Port{}), upBridge(5, 4, 0), upBridge(5, 4, 2), upBridge(5, 4, 9))
}

// bentBridges are none, each for one reason or several.
func bentBridges() []impl.Bridge {
	des, held := portFor(impl.RoDes, 0), withClaim(portFor(impl.RoDes, 0), vecOf(1, 0, 1, 0), 0, 3)
	list := []impl.Bridge{
		{}, {Id: 5}, {Id: 5, Ports: []impl.Port{}}, {Ports: []impl.Port{{}}},
		bridgeOf(5, des, held, des, des, des), bridgeOf(5, slices.Repeat([]impl.Port{held}, 5)...), bridgeOf(5, slices.Repeat([]impl.Port{{}}, 1000)...),
	}
	for _, id := range wildNumbers {
		if id < 1 || id > 9 {
			list = append(list, bridgeOf(id, des, held))
		}
	}
	list = append(list, bridgeOf(10, held), bridgeOf(-1, held), bridgeOf(0, held))
	// a port that is none, in each place
	for _, p := range bentPorts() {
		list = append(list, bridgeOf(5, p), bridgeOf(5, p, held), bridgeOf(5, held, p), bridgeOf(5, held, des, des, p))
	}
	return list
}

func goodIns() []impl.In {
	list := []impl.In{tickIn()}
	for port := range 4 {
		list = append(list, linkIn(port, true), linkIn(port, false))
		for _, v := range fewVecs() {
			list = append(list, claimIn(port, v, 0), claimIn(port, v, 7), claimIn(port, v, 8))
		}
	}
	return list
}

// bentIns can't come in, each for one reason or several.
func bentIns() []impl.In {
	v := vecOf(1, 0, 1, 0)
	list := []impl.In{
		{}, {Port: 1}, {Vec: v}, {Up: true},
		// a tick that says more
		{Kind: impl.InTick, Port: 1}, {Kind: impl.InTick, Port: -1}, {Kind: impl.InTick, Vec: v}, {Kind: impl.InTick, Vec: vecOf(0, 0, 0, 1)}, {Kind: impl.InTick, Vec: vecOf(0, -1, 0, 0)}, {Kind: impl.InTick, Hops: 1}, {Kind: impl.InTick, Hops: -1}, {Kind: impl.InTick, Up: true},
		// a link that says more
		{Kind: impl.InLink, Vec: v}, {Kind: impl.InLink, Up: true, Vec: v}, {Kind: impl.InLink, Vec: vecOf(0, 0, 0, 1)}, {Kind: impl.InLink, Up: true, Hops: 1}, {Kind: impl.InLink, Hops: 8}, {Kind: impl.InLink, Hops: -1},
		// a claim that says more, or less
		{Kind: impl.InClaim, Vec: v, Up: true}, {Kind: impl.InClaim}, {Kind: impl.InClaim, Port: 1, Hops: 1}, {Kind: impl.InClaim, Up: true},
	}
	for _, port := range wildNumbers {
		if port < 0 || port > 3 {
			list = append(list, linkIn(port, true), linkIn(port, false), claimIn(port, v, 0))
		}
	}
	for _, hops := range noHops {
		list = append(list, claimIn(0, v, hops))
	}
	for _, no := range bentVecs() {
		list = append(list, claimIn(0, no, 0))
	}
	for _, kind := range wildNumbers {
		if kind < 1 || kind > 3 {
			list = append(list, impl.In{Kind: kind}, impl.In{Kind: kind, Port: 1, Up: true}, impl.In{Kind: kind, Port: 1, Vec: v, Hops: 1})
		}
	}
	return list
}

// plainBridgeOk, and the plain ones behind it, say again what the chapter says, field by field.
func plainBridgeOk(b impl.Bridge) bool {
	if b.Id < 1 || b.Id > 9 || len(b.Ports) == 0 || len(b.Ports) > 4 {
		return false
	}
	for _, p := range b.Ports {
		if !plainPortOk(p) {
			return false
		}
	}
	return true
}

func plainRootPort(b impl.Bridge) int {
	if !plainBridgeOk(b) {
		return -1
	}
	best := -1
	// from the last one on, so that the first of alike ones is what stays
	for at := len(b.Ports) - 1; at >= 0; at-- {
		p := b.Ports[at]
		if !p.Up || !p.Has || p.Vec.Bridge == b.Id || p.Vec.Root >= b.Id || p.Vec.Cost > 19 || p.Hops > 7 {
			continue
		}
		if best < 0 || !plainBetter(b.Ports[best].Vec, p.Vec) {
			best = at
		}
	}
	return best
}

func plainOwn(b impl.Bridge, port int) impl.Vec {
	if !plainBridgeOk(b) || port < 0 || port >= len(b.Ports) {
		return impl.Vec{}
	}
	v := vecOf(b.Id, 0, b.Id, port)
	if lead := plainRootPort(b); lead >= 0 {
		v.Root, v.Cost = b.Ports[lead].Vec.Root, b.Ports[lead].Vec.Cost+1
	}
	return v
}

func plainHops(b impl.Bridge) int {
	if lead := plainRootPort(b); lead >= 0 {
		return b.Ports[lead].Hops + 1
	}
	return 0
}

func plainDecide(b impl.Bridge) impl.Bridge {
	next := copyBridge(b)
	if !plainBridgeOk(b) {
		return next
	}
	for at, p := range b.Ports {
		role := 2
		if p.Has && plainBetter(p.Vec, plainOwn(b, at)) {
			role = 3
		}
		if at == plainRootPort(b) {
			role = 1
		}
		if p.Up {
			next.Ports[at] = plainTurn(p, role)
		}
	}
	return next
}

func plainInOk(x impl.In) bool {
	port := x.Port >= 0 && x.Port <= 3
	noClaim := x.Vec.Root == 0 && x.Vec.Cost == 0 && x.Vec.Bridge == 0 && x.Vec.Port == 0 && x.Hops == 0
	switch x.Kind {
	case 1:
		return port && plainVecOk(x.Vec) && x.Hops >= 0 && x.Hops <= 8 && !x.Up
	case 2:
		return x.Port == 0 && noClaim && !x.Up
	case 3:
		return port && noClaim
	}
	return false
}

func plainTick(p impl.Port) impl.Port {
	p = plainFade(p)
	if p.Role == 1 || p.Role == 2 {
		p.Wait = max(p.Wait-1, 0)
		p.Open = p.Wait == 0
	}
	return p
}

func plainReact(b impl.Bridge, x impl.In) (impl.Bridge, []impl.Out) {
	next := copyBridge(b)
	if !plainBridgeOk(b) || !plainInOk(x) || x.Port >= len(b.Ports) {
		return next, nil
	}
	at := &next.Ports[x.Port]
	switch {
	case x.Kind == 1:
		*at = plainClaim(*at, x.Vec, x.Hops)
	case x.Kind == 2:
		for i := range next.Ports {
			next.Ports[i] = plainTick(next.Ports[i])
		}
	case at.Up == x.Up:
		return next, nil
	case x.Up:
		*at = impl.Port{Up: true, Role: 3}
	default:
		*at = impl.Port{}
	}
	next = plainDecide(next)
	return next, plainSaid(b, next, x.Kind == 2)
}

func plainSaid(was impl.Bridge, now impl.Bridge, tick bool) []impl.Out {
	var list []impl.Out
	for i := range now.Ports {
		if now.Ports[i].Open && !was.Ports[i].Open {
			list = append(list, impl.Out{Kind: 2, Port: i, On: true})
		}
		if !now.Ports[i].Open && was.Ports[i].Open {
			list = append(list, impl.Out{Kind: 2, Port: i})
		}
	}
	for i := range now.Ports {
		if tick && now.Ports[i].Role == 2 {
			list = append(list, impl.Out{Kind: 1, Port: i, Vec: plainOwn(now, i), Hops: plainHops(now)})
		}
	}
	return list
}

func wantRootPort(t *testing.T, b impl.Bridge, want int) {
	t.Helper()
	if got, ok := impl.RootPort(b); got != want || ok != (want >= 0) {
		t.Errorf("RootPort(%+v): %d %v, want %d", b, got, ok, want)
	}
}

func wantOwn(t *testing.T, b impl.Bridge, port int, want impl.Vec) {
	t.Helper()
	if got := impl.Own(b, port); got != want {
		t.Errorf("Own(%+v, %d): %v, want %v", b, port, got, want)
	}
}

func wantHops(t *testing.T, b impl.Bridge, want int) {
	t.Helper()
	if got := impl.Hops(b); got != want {
		t.Errorf("Hops(%+v): %d, want %d", b, got, want)
	}
}

func wantDecide(t *testing.T, b impl.Bridge, want impl.Bridge) {
	t.Helper()
	if got := impl.Decide(b); !sameBridge(got, want) {
		t.Errorf("Decide(%+v): %+v, want %+v", b, got, want)
	}
}

func wantReact(t *testing.T, b impl.Bridge, x impl.In, want impl.Bridge, said ...impl.Out) {
	t.Helper()
	got, outs := impl.React(b, x)
	if !sameBridge(got, want) {
		t.Errorf("React(%+v, %+v): %+v, want %+v", b, x, got, want)
	}
	if !slices.Equal(outs, said) {
		t.Errorf("React(%+v, %+v) says %+v, want %+v", b, x, outs, said)
	}
}

// wantAsPlain holds all that is asked of b against what the chapter says.
func wantAsPlain(t *testing.T, b impl.Bridge) {
	t.Helper()
	if impl.BridgeOk(b) != plainBridgeOk(b) {
		t.Errorf("BridgeOk(%+v): %v", b, impl.BridgeOk(b))
	}
	wantRootPort(t, b, plainRootPort(b))
	wantHops(t, b, plainHops(b))
	wantDecide(t, b, plainDecide(b))
	for port := -1; port <= 5; port++ {
		wantOwn(t, b, port, plainOwn(b, port))
	}
}

func wantReactAsPlain(t *testing.T, b impl.Bridge, x impl.In) {
	t.Helper()
	want, said := plainReact(b, x)
	wantReact(t, b, x, want, said...)
}

func TestBridgeKinds(t *testing.T) {
	if impl.InClaim != 1 || impl.InTick != 2 || impl.InLink != 3 {
		t.Error("what comes in", impl.InClaim, impl.InTick, impl.InLink)
	}
	if impl.OuClaim != 1 || impl.OuGate != 2 {
		t.Error("what is said", impl.OuClaim, impl.OuGate)
	}
}

func TestBridgeOk(t *testing.T) {
	for _, b := range goodBridges() {
		if !impl.BridgeOk(b) {
			t.Errorf("BridgeOk(%+v): false", b)
		}
	}
	for _, p := range goodPorts() {
		if b := bridgeOf(5, impl.Port{}, p); !impl.BridgeOk(b) {
			t.Errorf("BridgeOk(%+v): false", b)
		}
	}
	for _, b := range bentBridges() {
		if impl.BridgeOk(b) {
			t.Errorf("BridgeOk(%+v): true", b)
		}
	}
}

func TestBridgeOkAtItsEdges(t *testing.T) {
	for _, id := range append(wildNumbers, 10, 11) {
		for count := range 7 {
			want := id >= 1 && id <= 9 && count >= 1 && count <= 4
			if got := impl.BridgeOk(impl.Bridge{Id: id, Ports: make([]impl.Port, count)}); got != want {
				t.Errorf("BridgeOk of %d with %d ports: %v", id, count, got)
			}
		}
	}
}

func TestBridgeNew(t *testing.T) {
	for _, id := range append(wildNumbers, 6, 7, 10) {
		for _, count := range append(wildNumbers, 6, 100000, math.MaxInt/2, math.MaxInt32, 1<<40) {
			want := impl.Bridge{}
			is := id >= 1 && id <= 9 && count >= 1 && count <= 4
			if is {
				want = impl.Bridge{Id: id, Ports: make([]impl.Port, count)}
			}
			if b, ok := impl.BridgeNew(id, count); ok != is || !sameBridge(b, want) {
				t.Errorf("BridgeNew(%d, %d): %+v %v", id, count, b, ok)
			}
		}
	}
}

// followed is a port at which something is claimed that leads to the least.
func followed(root int, cost int, bridge int, port int) impl.Port {
	return withClaim(portFor(impl.RoAlt, 0), vecOf(root, cost, bridge, port), 2, 3)
}

func TestRootPortOfOne(t *testing.T) {
	for _, c := range []struct {
		id    int
		p     impl.Port
		leads bool
	}{
		{5, followed(2, 1, 3, 0), true}, {5, followed(1, 0, 1, 0), true}, {5, followed(2, 1, 9, 3), true}, {9, followed(8, 0, 8, 3), true}, {2, followed(1, 0, 1, 0), true},
		// a Root that is Id, or above it
		{5, followed(4, 1, 6, 0), true}, {5, followed(5, 1, 6, 0), false}, {5, followed(6, 0, 6, 0), false}, {5, followed(6, 1, 7, 0), false}, {1, followed(1, 1, 2, 0), false}, {1, followed(2, 0, 2, 0), false},
		// who says so is this very bridge
		{5, followed(2, 1, 5, 0), false}, {5, followed(1, 3, 5, 3), false}, {5, followed(5, 0, 5, 1), false}, {5, followed(2, 1, 4, 0), true}, {5, followed(2, 1, 6, 0), true},
		// how far away
		{5, followed(2, 19, 3, 0), true}, {5, followed(2, 20, 3, 0), false},
		// by how many
		{5, withClaim(portFor(impl.RoDes, 0), vecOf(2, 1, 3, 0), 0, 1), true}, {5, withClaim(portFor(impl.RoDes, 0), vecOf(2, 1, 3, 0), 7, 1), true}, {5, withClaim(portFor(impl.RoDes, 0), vecOf(2, 1, 3, 0), 8, 3), false},
		// nothing is claimed, or it is not there
		{5, portFor(impl.RoRoot, 0), false}, {5, portFor(impl.RoAlt, 0), false}, {5, impl.Port{}, false}, {9, impl.Port{Wait: 4}, false},
	} {
		for at := range 4 {
			ports := make([]impl.Port, 4)
			ports[at] = c.p
			want := -1
			if c.leads {
				want = at
			}
			wantRootPort(t, bridgeOf(c.id, ports[:at+1]...), want)
			wantRootPort(t, bridgeOf(c.id, ports...), want)
		}
	}
}

func TestRootPortOfSeveral(t *testing.T) {
	best := followed(2, 2, 4, 1)
	for _, c := range []struct {
		other impl.Port
		first int // who leads, of the other one and best
		last  int // who leads, of best and the other one
	}{
		// better, by each part
		{followed(1, 19, 9, 3), 0, 1}, {followed(2, 1, 9, 3), 0, 1}, {followed(2, 2, 3, 3), 0, 1}, {followed(2, 2, 4, 0), 0, 1},
		// alike, also where it came by more, or is known for less
		{best, 0, 0}, {withClaim(portFor(impl.RoRoot, 0), best.Vec, 7, 1), 0, 0}, {withClaim(portFor(impl.RoDes, 3), best.Vec, 0, 3), 0, 0},
		// worse, by each part
		{followed(3, 0, 3, 0), 1, 0}, {followed(2, 3, 3, 0), 1, 0}, {followed(2, 2, 6, 0), 1, 0}, {followed(2, 2, 4, 2), 1, 0},
		// better, but not one to follow
		{followed(1, 20, 3, 0), 1, 0}, {followed(1, 1, 5, 0), 1, 0}, {withClaim(portFor(impl.RoRoot, 0), vecOf(1, 0, 1, 0), 8, 3), 1, 0}, {portFor(impl.RoRoot, 0), 1, 0}, {impl.Port{}, 1, 0},
	} {
		wantRootPort(t, bridgeOf(5, c.other, best), c.first)
		wantRootPort(t, bridgeOf(5, best, c.other), c.last)
		wantRootPort(t, bridgeOf(5, impl.Port{}, best, portFor(impl.RoDes, 0), c.other), 1+2*c.last)
	}
	wantRootPort(t, bridgeOf(5, followed(3, 1, 4, 0), followed(2, 1, 4, 0), followed(2, 1, 4, 0), followed(2, 2, 3, 0)), 1)
	wantRootPort(t, bridgeOf(5, followed(5, 1, 6, 0), followed(2, 20, 4, 0), followed(1, 1, 5, 0), impl.Port{}), -1)
}

func TestNoBridgeHasARootPort(t *testing.T) {
	for _, b := range bentBridges() {
		kept := copyBridge(b)
		wantRootPort(t, b, -1)
		wantHops(t, b, 0)
		for _, port := range wildNumbers {
			wantOwn(t, b, port, impl.Vec{})
		}
		wantDecide(t, b, kept)
		for _, x := range goodIns() {
			wantReact(t, b, x, kept)
		}
	}
}

func TestOwnAndHops(t *testing.T) {
	alone := bridgeOf(5, portFor(impl.RoDes, 0), impl.Port{}, followed(5, 1, 6, 0), followed(2, 20, 3, 0))
	for port := range 4 {
		wantOwn(t, alone, port, vecOf(5, 0, 5, port))
	}
	wantHops(t, alone, 0)
	led := bridgeOf(5, portFor(impl.RoDes, 0), impl.Port{}, followed(2, 1, 3, 0), followed(2, 1, 4, 0))
	for port := range 4 {
		wantOwn(t, led, port, vecOf(2, 2, 5, port))
	}
	wantHops(t, led, 3)
	// the farthest that can be followed, and what came by most
	far := bridgeOf(9, withClaim(portFor(impl.RoRoot, 0), vecOf(1, 19, 8, 3), 7, 1))
	wantOwn(t, far, 0, vecOf(1, 20, 9, 0))
	wantHops(t, far, 8)
	near := bridgeOf(2, withClaim(portFor(impl.RoRoot, 0), vecOf(1, 0, 1, 3), 0, 1))
	wantOwn(t, near, 0, vecOf(1, 1, 2, 0))
	wantHops(t, near, 1)
}

func TestOwnAtNoPort(t *testing.T) {
	for count := 1; count <= 4; count++ {
		b := bridgeOf(5, slices.Repeat([]impl.Port{followed(2, 1, 3, 0)}, count)...)
		for _, port := range wildNumbers {
			if port < 0 || port >= count {
				wantOwn(t, b, port, impl.Vec{})
			}
		}
	}
}

func TestDecide(t *testing.T) {
	ring := followed(2, 1, 4, 0)
	b := bridgeOf(5, ring, followed(2, 1, 3, 0), followed(2, 2, 4, 0), followed(2, 2, 6, 0))
	wantDecide(t, b, bridgeOf(5, impl.Turn(b.Ports[0], impl.RoAlt), impl.Turn(b.Ports[1], impl.RoRoot), impl.Turn(b.Ports[2], impl.RoAlt), impl.Turn(b.Ports[3], impl.RoDes)))
	// without one to follow it is the least itself, and what is claimed above it counts for nothing
	b = bridgeOf(5, portFor(impl.RoRoot, 0), followed(6, 0, 6, 0), impl.Port{Wait: 3}, portFor(impl.RoAlt, 4))
	wantDecide(t, b, bridgeOf(5, portFor(impl.RoDes, 0), impl.Turn(b.Ports[1], impl.RoDes), impl.Port{Wait: 3}, portFor(impl.RoDes, 4)))
	// what can't be followed is still better than what it claims itself
	for _, p := range []impl.Port{followed(2, 20, 3, 0), withClaim(portFor(impl.RoDes, 0), vecOf(2, 1, 3, 0), 8, 3), followed(1, 1, 5, 0)} {
		wantDecide(t, bridgeOf(5, p), bridgeOf(5, impl.Turn(p, impl.RoAlt)))
	}
	// its own claim comes back at another port: the one with the less port stays
	back := bridgeOf(5, withClaim(portFor(impl.RoDes, 0), vecOf(5, 0, 5, 1), 0, 3), withClaim(portFor(impl.RoDes, 0), vecOf(5, 0, 5, 0), 0, 3))
	wantDecide(t, back, bridgeOf(5, back.Ports[0], impl.Turn(back.Ports[1], impl.RoAlt)))
	// alike is not better
	alike := bridgeOf(5, withClaim(portFor(impl.RoAlt, 0), vecOf(5, 0, 5, 0), 0, 3))
	wantDecide(t, alike, bridgeOf(5, impl.Turn(alike.Ports[0], impl.RoDes)))
}

func TestDecideOfOtherRoles(t *testing.T) {
	for _, p := range bareUpPorts() {
		wantDecide(t, bridgeOf(5, p), bridgeOf(5, impl.Turn(p, impl.RoDes)))
		lead := withClaim(p, vecOf(2, 1, 3, 0), 2, 3)
		wantDecide(t, bridgeOf(5, lead), bridgeOf(5, impl.Turn(lead, impl.RoRoot)))
		wantDecide(t, bridgeOf(5, lead, lead), bridgeOf(5, impl.Turn(lead, impl.RoRoot), impl.Turn(lead, impl.RoAlt)))
	}
	for _, p := range bareDownPorts() {
		wantDecide(t, bridgeOf(5, p, p), bridgeOf(5, p, p))
	}
}

// One at most leads to the least, whatever the ports were for.
func TestOneAtMostLeads(t *testing.T) {
	for _, b := range goodBridges() {
		next := impl.Decide(b)
		lead, ok := impl.RootPort(next)
		for at, p := range next.Ports {
			if (p.Role == impl.RoRoot) != (ok && at == lead) || p.Up != b.Ports[at].Up {
				t.Fatalf("Decide(%+v): %+v, RootPort %d %v", b, next, lead, ok)
			}
		}
		if !impl.BridgeOk(next) {
			t.Fatalf("BridgeOk(Decide(%+v)): false", b)
		}
		wantDecide(t, next, next)
	}
}

func TestBridgeAsTheChapterSays(t *testing.T) {
	for _, b := range slices.Concat(goodBridges(), bentBridges()) {
		wantAsPlain(t, b)
	}
}

func TestInOk(t *testing.T) {
	for _, x := range goodIns() {
		if !impl.InOk(x) {
			t.Errorf("InOk(%+v): false", x)
		}
	}
	for _, v := range goodVecs() {
		if x := claimIn(3, v, 8); !impl.InOk(x) {
			t.Errorf("InOk(%+v): false", x)
		}
	}
	for _, x := range bentIns() {
		if impl.InOk(x) {
			t.Errorf("InOk(%+v): true", x)
		}
	}
}

func TestInOkAtItsEdges(t *testing.T) {
	vecs := append(fewVecs(), impl.Vec{}, vecOf(0, 0, 0, 1), vecOf(0, 0, 1, 0), vecOf(0, 1, 0, 0), vecOf(1, 0, 0, 0), vecOf(1, 0, 1, 4), vecOf(1, 21, 2, 0), vecOf(1, 0, 2, 0))
	good := 0
	for kind := -1; kind <= 5; kind++ {
		for port := -1; port <= 5; port++ {
			for hops := -1; hops <= 9; hops++ {
				for _, v := range vecs {
					for _, up := range []bool{false, true} {
						x := impl.In{Kind: kind, Port: port, Vec: v, Hops: hops, Up: up}
						if impl.InOk(x) != plainInOk(x) {
							t.Fatalf("InOk(%+v): %v", x, impl.InOk(x))
						}
						if impl.InOk(x) {
							good++
						}
					}
				}
			}
		}
	}
	// a tick, each of 4 ports up and down, and each claim at each of them by 0 to 8
	if want := 1 + 4*2 + 4*9*len(fewVecs()); good != want {
		t.Errorf("%d can come in, want %d", good, want)
	}
}

func TestInOkOfWildNumbers(t *testing.T) {
	v := vecOf(2, 1, 4, 1)
	for _, kind := range wildNumbers {
		for _, port := range wildNumbers {
			for _, hops := range wildNumbers {
				for _, x := range []impl.In{{Kind: kind, Port: port, Hops: hops}, {Kind: kind, Port: port, Vec: v, Hops: hops}, {Kind: kind, Port: port, Hops: hops, Up: true}} {
					if impl.InOk(x) != plainInOk(x) {
						t.Fatalf("InOk(%+v): %v", x, impl.InOk(x))
					}
				}
			}
		}
	}
}

func TestReactToALink(t *testing.T) {
	b, _ := impl.BridgeNew(5, 2)
	waits := portFor(impl.RoDes, 4)
	wantReact(t, b, linkIn(1, true), bridgeOf(5, impl.Port{}, waits))
	wantReact(t, bridgeOf(5, impl.Port{Wait: 2}), linkIn(0, true), bridgeOf(5, waits))
	// open, it goes down: its gate is shut, and that is said; up again it has nothing and waits anew
	open := upBridge(5, 2, 4)
	wantReact(t, open, linkIn(0, false), bridgeOf(5, impl.Port{}, portFor(impl.RoDes, 0)), gateOut(0, false))
	wantReact(t, open, linkIn(1, false), bridgeOf(5, portFor(impl.RoDes, 0), impl.Port{}), gateOut(1, false))
	wantReact(t, afterAll(open, linkIn(1, false)), linkIn(1, true), bridgeOf(5, portFor(impl.RoDes, 0), waits))
	// shut, nothing is said of it
	wantReact(t, upBridge(5, 2, 3), linkIn(0, false), bridgeOf(5, impl.Port{}, portFor(impl.RoDes, 1)))
	// what was claimed there is gone with it, and another one leads
	led := afterAll(open, claimIn(0, vecOf(1, 0, 1, 0), 0), claimIn(1, vecOf(1, 1, 2, 0), 1))
	after := withClaim(portFor(impl.RoRoot, 4), vecOf(1, 1, 2, 0), 1, 3)
	wantReact(t, led, linkIn(0, false), bridgeOf(5, impl.Port{}, after), gateOut(0, false))
}

func TestReactToALinkThatIsAsItWas(t *testing.T) {
	for _, b := range append(goodBridges(), upBridge(5, 3, 1), upBridge(5, 2, 4)) {
		kept := copyBridge(b)
		for port, p := range b.Ports {
			wantReact(t, b, linkIn(port, p.Up), kept)
		}
	}
}

func TestReactToAClaim(t *testing.T) {
	b := upBridge(5, 3, 4)
	des := portFor(impl.RoDes, 0)
	first := vecOf(2, 1, 4, 0)
	led := withClaim(portFor(impl.RoRoot, 0), first, 1, 3)
	// the one that leads stays open, and nothing is told of what is no tick
	wantReact(t, b, claimIn(1, first, 1), bridgeOf(5, des, led, des))
	// a second way to the same one is a ring: it is shut at once
	second := vecOf(2, 1, 4, 1)
	ring := bridgeOf(5, des, led, withClaim(portFor(impl.RoAlt, 0), second, 1, 3))
	wantReact(t, bridgeOf(5, des, led, des), claimIn(2, second, 1), ring, gateOut(2, false))
	// a better one leads instead, and waits, as it was shut for a ring; the other one leads no more
	better := withClaim(portFor(impl.RoRoot, 4), vecOf(1, 5, 4, 1), 7, 3)
	wantReact(t, ring, claimIn(2, vecOf(1, 5, 4, 1), 7), bridgeOf(5, des, withClaim(portFor(impl.RoDes, 0), first, 1, 3), better))
	// a worse one from elsewhere turns nothing
	wantReact(t, ring, claimIn(1, vecOf(2, 1, 6, 0), 0), ring)
	wantReact(t, ring, claimIn(2, vecOf(9, 0, 9, 0), 0), ring)
	// who told it takes it back: it leads no more, and the second way does
	back := bridgeOf(5, des, withClaim(portFor(impl.RoDes, 0), vecOf(4, 0, 4, 0), 0, 3), withClaim(portFor(impl.RoRoot, 4), second, 1, 3))
	wantReact(t, ring, claimIn(1, vecOf(4, 0, 4, 0), 0), back)
}

// Who leads takes it back: port 0 leads instead, and two that were open are shut for a ring at once.
func TestReactToAClaimThatTurnsTwoGates(t *testing.T) {
	vecs := []impl.Vec{vecOf(3, 0, 3, 0), vecOf(2, 1, 4, 0), vecOf(3, 1, 4, 1), vecOf(3, 1, 4, 2)}
	back := vecOf(4, 0, 4, 0)
	b := bridgeOf(5, withClaim(portFor(impl.RoDes, 0), vecs[0], 0, 3), withClaim(portFor(impl.RoRoot, 0), vecs[1], 1, 3), withClaim(portFor(impl.RoDes, 0), vecs[2], 1, 3), withClaim(portFor(impl.RoDes, 0), vecs[3], 1, 3))
	now := bridgeOf(5, withClaim(portFor(impl.RoRoot, 0), vecs[0], 0, 3), withClaim(portFor(impl.RoDes, 0), back, 0, 3), withClaim(portFor(impl.RoAlt, 0), vecs[2], 1, 3), withClaim(portFor(impl.RoAlt, 0), vecs[3], 1, 3))
	wantReact(t, b, claimIn(1, back, 0), now, gateOut(2, false), gateOut(3, false))
}

func TestReactToAClaimWhereNobodyIs(t *testing.T) {
	b := afterAll(upBridge(5, 3, 4), linkIn(1, false))
	wantReact(t, b, claimIn(1, vecOf(1, 0, 1, 0), 0), b)
}

func TestReactAtNoPort(t *testing.T) {
	for count := 1; count <= 4; count++ {
		b := upBridge(5, count, 4)
		for port := range 4 {
			is := port < count
			for _, x := range []impl.In{claimIn(port, vecOf(1, 0, 1, 0), 0), linkIn(port, false)} {
				if next, _ := impl.React(b, x); sameBridge(next, b) == is {
					t.Errorf("React of %d ports to %+v: %+v", count, x, next)
				}
				if !is {
					wantReact(t, b, x, b)
				}
			}
			wantReact(t, b, linkIn(port, true), b)
		}
		// what is handed in for what nothing asks stays for it, too
		odd := bridgeOf(5, slices.Repeat([]impl.Port{portFor(impl.RoRoot, 0)}, count)...)
		for port := count; port < 4; port++ {
			wantReact(t, odd, claimIn(port, vecOf(1, 0, 1, 0), 0), odd)
			wantReact(t, odd, linkIn(port, true), odd)
			wantReact(t, odd, linkIn(port, false), odd)
		}
	}
}

func TestReactToWhatCantComeIn(t *testing.T) {
	for _, b := range append(goodBridges(), upBridge(5, 3, 3)) {
		kept := copyBridge(b)
		for _, x := range bentIns() {
			wantReact(t, b, x, kept)
		}
	}
}

func TestReactToATick(t *testing.T) {
	// all ports wait; then all open at once, gates ahead of claims, each ascending
	b := upBridge(5, 2, 3)
	wantReact(t, b, tickIn(), bridgeOf(5, portFor(impl.RoDes, 0), portFor(impl.RoDes, 0)),
		gateOut(0, true), gateOut(1, true), claimOut(0, vecOf(5, 0, 5, 0), 0), claimOut(1, vecOf(5, 0, 5, 1), 0))
	// one that waits claims, too; one that leads, is shut for a ring or is down does not
	b = bridgeOf(5, portFor(impl.RoDes, 3), followed(2, 1, 4, 1), impl.Port{Wait: 2}, withClaim(portFor(impl.RoRoot, 2), vecOf(2, 1, 3, 0), 4, 2))
	wantReact(t, b, tickIn(), bridgeOf(5, portFor(impl.RoDes, 2), withClaim(portFor(impl.RoAlt, 0), vecOf(2, 1, 4, 1), 2, 2), impl.Port{Wait: 2}, withClaim(portFor(impl.RoRoot, 1), vecOf(2, 1, 3, 0), 4, 1)),
		claimOut(0, vecOf(2, 2, 5, 0), 5))
	// the one that leads opens; it claims nothing
	b = bridgeOf(5, withClaim(portFor(impl.RoRoot, 1), vecOf(1, 19, 3, 0), 7, 3), portFor(impl.RoDes, 0))
	wantReact(t, b, tickIn(), bridgeOf(5, withClaim(portFor(impl.RoRoot, 0), vecOf(1, 19, 3, 0), 7, 2), portFor(impl.RoDes, 0)),
		gateOut(0, true), claimOut(1, vecOf(1, 20, 5, 1), 8))
	// a bridge without a port that is up says nothing
	down, _ := impl.BridgeNew(3, 4)
	wantReact(t, down, tickIn(), down)
}

// What is said of a tick is as it is behind it: of what fades with it nothing is said any more.
func TestReactToATickThatTurns(t *testing.T) {
	faded := bridgeOf(5, withClaim(portFor(impl.RoRoot, 0), vecOf(1, 0, 1, 0), 0, 1), portFor(impl.RoDes, 0))
	wantReact(t, faded, tickIn(), bridgeOf(5, portFor(impl.RoDes, 0), portFor(impl.RoDes, 0)),
		claimOut(0, vecOf(5, 0, 5, 0), 0), claimOut(1, vecOf(5, 0, 5, 1), 0))
	// port 1 leads no more, port 0 does; port 2 would open, but is shut for a ring; port 3 was open, and is shut for one
	near, far := vecOf(2, 0, 2, 0), vecOf(2, 1, 3, 0)
	b := bridgeOf(5, withClaim(portFor(impl.RoDes, 1), near, 0, 3), withClaim(portFor(impl.RoRoot, 0), vecOf(1, 0, 1, 0), 0, 1), withClaim(portFor(impl.RoDes, 1), far, 1, 3), withClaim(portFor(impl.RoDes, 0), far, 1, 2))
	wantReact(t, b, tickIn(), bridgeOf(5, withClaim(portFor(impl.RoRoot, 0), near, 0, 2), portFor(impl.RoDes, 0), withClaim(portFor(impl.RoAlt, 0), far, 1, 2), withClaim(portFor(impl.RoAlt, 0), far, 1, 1)),
		gateOut(0, true), gateOut(3, false), claimOut(1, vecOf(2, 1, 5, 1), 1))
	// one that was shut for a ring waits from this tick on in full; as what it was for, it waits for no tick
	ring := bridgeOf(5, withClaim(portFor(impl.RoAlt, 3), vecOf(1, 0, 1, 0), 0, 1), portFor(impl.RoDes, 0))
	wantReact(t, ring, tickIn(), bridgeOf(5, portFor(impl.RoDes, 4), portFor(impl.RoDes, 0)),
		claimOut(0, vecOf(5, 0, 5, 0), 0), claimOut(1, vecOf(5, 0, 5, 1), 0))
}

// What was shut for a ring opens Delay ticks behind that, and not sooner.
func TestWhatWasShutForARingOpensLater(t *testing.T) {
	first, second := vecOf(2, 1, 3, 0), vecOf(2, 1, 4, 0)
	b := afterAll(upBridge(5, 3, 4), claimIn(1, first, 1), claimIn(2, second, 1))
	if b.Ports[2].Role != impl.RoAlt || b.Ports[2].Open {
		t.Fatalf("no ring: %+v", b)
	}
	// port 1 goes down: port 2 leads, and is told again in each tick
	b = afterAll(b, linkIn(1, false))
	for tick := 1; tick <= 10; tick++ {
		var said []impl.Out
		b, said = impl.React(b, tickIn())
		opens := slices.Contains(said, gateOut(2, true))
		if b.Ports[2].Role != impl.RoRoot || b.Ports[2].Open != (tick >= 4) || opens != (tick == 4) {
			t.Fatalf("tick %d: %+v, says %+v", tick, b, said)
		}
		b = afterAll(b, claimIn(2, second, 1))
	}
}

// Shut for a ring again while it waits, it waits anew.
func TestWhatIsShutAgainWaitsAnew(t *testing.T) {
	first, second := vecOf(2, 1, 3, 0), vecOf(2, 1, 4, 0)
	b := upBridge(5, 2, 4)
	for range 5 {
		b = afterAll(b, claimIn(0, first, 1), claimIn(1, second, 1))
		if b.Ports[1].Role != impl.RoAlt || b.Ports[1].Wait != 0 {
			t.Fatalf("no ring: %+v", b)
		}
		// who leads takes it back, so port 1 leads, for three ticks
		b = afterAll(b, claimIn(0, vecOf(3, 0, 3, 0), 0), tickIn(), tickIn(), claimIn(1, second, 1), tickIn())
		if b.Ports[1].Role != impl.RoRoot || b.Ports[1].Wait != 1 || b.Ports[1].Open {
			t.Fatalf("it does not wait: %+v", b)
		}
	}
	b, said := impl.React(b, tickIn())
	if !b.Ports[1].Open || !slices.Contains(said, gateOut(1, true)) {
		t.Fatalf("it does not open: %+v, says %+v", b, said)
	}
}

// What is not claimed again at a bridge is forgotten in Life ticks, not sooner.
func TestBridgeForgetsWhatIsNotClaimedAgain(t *testing.T) {
	for port := range 4 {
		for _, v := range fewVecs() {
			b := afterAll(upBridge(5, 4, 4), claimIn(port, v, 3))
			for tick := 1; tick <= 8; tick++ {
				b = afterAll(b, tickIn())
				p := b.Ports[port]
				if p.Has != (tick < 3) || p.Has && (p.Vec != v || p.Hops != 3) || !p.Has && p.Vec != (impl.Vec{}) {
					t.Fatalf("%v at port %d, tick %d: %+v", v, port, tick, p)
				}
				if tick >= 3 {
					wantRootPort(t, b, -1)
					wantOwn(t, b, port, vecOf(5, 0, 5, port))
					wantHops(t, b, 0)
				}
			}
		}
	}
}

func TestBridgeKeepsWhatIsClaimedAgain(t *testing.T) {
	v := vecOf(2, 1, 3, 0)
	for every := 1; every <= 2; every++ {
		b := afterAll(upBridge(5, 2, 4), claimIn(1, v, 1))
		for tick := 1; tick <= 30; tick++ {
			b = afterAll(b, tickIn())
			wantRootPort(t, b, 1)
			if tick%every == 0 {
				b = afterAll(b, claimIn(1, v, 1))
			}
		}
	}
}

func TestReactAsTheChapterSays(t *testing.T) {
	for _, b := range goodBridges() {
		for _, x := range goodIns() {
			wantReactAsPlain(t, b, x)
		}
		if t.Failed() {
			t.FailNow()
		}
	}
}

// chooser tells numbers from a rule, the same ones each time.
type chooser struct{ state uint64 }

func (c *chooser) below(n int) int {
	c.state = c.state*6364136223846793005 + 1442695040888963407
	return int(c.state>>33) % n
}

// nextIn tells ticks most often, so that what waits comes to open and what is claimed to fade.
func (c *chooser) nextIn() impl.In {
	ins := goodIns()
	switch c.below(5) {
	case 0:
		return linkIn(c.below(4), c.below(3) > 0)
	case 1, 2:
		return ins[c.below(len(ins))]
	}
	return tickIn()
}

// pastOf is what was seen of a port: for how many ticks it leads or claims, and since it was last told something.
type pastOf struct{ stood, told int }

func (p *pastOf) see(was impl.Port, now impl.Port, x impl.In, at int) {
	if x.Kind == impl.InTick {
		p.stood++
		p.told++
	}
	if now.Role != impl.RoRoot && now.Role != impl.RoDes || !was.Up || was.Role == impl.RoAlt {
		p.stood = 0
	}
	if x.Kind == impl.InClaim && x.Port == at {
		p.told = 0
	}
}

// From a new bridge on, whatever comes: it stays one, is decided, one leads at most, what was shut waits, what is not told fades.
func TestBridgeWhateverComes(t *testing.T) {
	for seed := range 40 {
		c := &chooser{uint64(seed)}
		b, _ := impl.BridgeNew(1+seed%9, 1+seed/9%4)
		past := make([]pastOf, len(b.Ports))
		for step := range 300 {
			x := c.nextIn()
			wantReactAsPlain(t, b, x)
			was := b
			b, _ = impl.React(b, x)
			wantAsPlain(t, b)
			wantDecide(t, b, b)
			leads := 0
			for at, p := range b.Ports {
				past[at].see(was.Ports[at], p, x, at)
				if p.Role == impl.RoRoot {
					leads++
				}
				if p.Open != (p.Up && p.Role != impl.RoAlt && past[at].stood >= 4) || p.Has && past[at].told >= 3 {
					t.Errorf("port %d: %+v, %+v", at, p, past[at])
				}
			}
			if !impl.BridgeOk(b) || leads > 1 {
				t.Errorf("%d lead: %+v", leads, b)
			}
			if t.Failed() {
				t.Fatalf("seed %d, step %d, of %+v", seed, step, x)
			}
		}
	}
}

// What it says can come in at another one.
func TestWhatIsSaidCanBeClaimed(t *testing.T) {
	for _, b := range goodBridges() {
		for _, x := range goodIns() {
			next, said := impl.React(b, x)
			for _, out := range said {
				if out.Kind == impl.OuClaim && (x.Kind != impl.InTick || out.On || !impl.InOk(claimIn(out.Port, out.Vec, out.Hops)) || next.Ports[out.Port].Role != impl.RoDes) {
					t.Fatalf("React(%+v, %+v) says %+v", b, x, out)
				}
				if out.Kind == impl.OuGate && (out.Vec != impl.Vec{} || out.Hops != 0 || out.On != next.Ports[out.Port].Open || out.On == b.Ports[out.Port].Open) {
					t.Fatalf("React(%+v, %+v) says %+v", b, x, out)
				}
			}
		}
	}
}

// scribbleBridge writes over all of a bridge and of what it says, and behind them.
func scribbleBridge(b impl.Bridge, said []impl.Out) {
	all := append(b.Ports, impl.Port{Wait: 77})
	for i := range all {
		all[i].Wait = 77
	}
	for i := range b.Ports {
		b.Ports[i] = impl.Port{Wait: 77}
	}
	for i := range said {
		said[i] = impl.Out{Kind: 77}
	}
	_ = append(said, impl.Out{Kind: 77})
}

func TestBridgeSharesNoMemory(t *testing.T) {
	for _, b := range slices.Concat(goodBridges(), bentBridges()) {
		kept := copyBridge(b)
		scribbleBridge(impl.Decide(b), nil)
		for _, x := range []impl.In{tickIn(), linkIn(0, true), linkIn(0, false), linkIn(3, true), claimIn(0, vecOf(1, 0, 1, 0), 0), claimIn(3, vecOf(9, 0, 9, 0), 8), {}, {Kind: impl.InTick, Port: 1}} {
			scribbleBridge(impl.React(b, x))
		}
		if !sameBridge(b, kept) {
			t.Fatalf("was written into: %+v, was %+v", b, kept)
		}
	}
	one, _ := impl.BridgeNew(5, 3)
	scribbleBridge(one, nil)
	if two, _ := impl.BridgeNew(5, 3); !sameBridge(two, impl.Bridge{Id: 5, Ports: make([]impl.Port, 3)}) {
		t.Errorf("two answers of BridgeNew share memory: %+v", two)
	}
}

func TestBridgeWritesIntoNoArgument(t *testing.T) {
	// the room behind what is handed in is to stay as it is, too
	ports := []impl.Port{portFor(impl.RoDes, 1), withClaim(portFor(impl.RoRoot, 1), vecOf(1, 0, 1, 0), 0, 1), followed(2, 1, 4, 1), {}, portFor(impl.RoDes, 2), followed(1, 0, 1, 0), {Wait: 9}}
	kept := slices.Clone(ports)
	for id := range 11 {
		for count := range ports {
			b := impl.Bridge{Id: id, Ports: ports[:count]}
			impl.BridgeOk(b)
			impl.RootPort(b)
			impl.Hops(b)
			impl.Decide(b)
			for port := -1; port < 6; port++ {
				impl.Own(b, port)
			}
			for _, x := range slices.Concat(goodIns(), bentIns()) {
				impl.React(b, x)
			}
		}
	}
	if !slices.Equal(ports, kept) {
		t.Errorf("written into: %+v, was %+v", ports, kept)
	}
}

// bridgeFrom makes a bridge of any bytes, most often one that is right, or wrong by one port.
func bridgeFrom(id int, b []byte) impl.Bridge {
	ports := append(goodPorts(), bentPorts()...)
	next := impl.Bridge{Id: id}
	for ; len(b) > 1; b = b[2:] {
		next.Ports = append(next.Ports, ports[(int(b[0])<<8|int(b[1]))%len(ports)])
	}
	return next
}

func FuzzBridge(f *testing.F) {
	f.Add(5, []byte{0, 1, 2, 3, 4, 5}, impl.InClaim, 1, 1, 0, 1, 0, 8, false)
	f.Add(9, []byte{1, 1, 2, 2, 3, 3, 4, 4}, impl.InTick, 0, 0, 0, 0, 0, 0, false)
	f.Add(1, []byte{0, 0}, impl.InLink, 0, 0, 0, 0, 0, 0, true)
	f.Add(0, []byte{}, 0, -1, 0, 0, 0, 0, -1, true)
	f.Fuzz(func(t *testing.T, id int, ports []byte, kind int, port int, root int, cost int, bridge int, port2 int, hops int, up bool) {
		b := bridgeFrom(id, ports)
		kept := copyBridge(b)
		x := impl.In{Kind: kind, Port: port, Vec: vecOf(root, cost, bridge, port2), Hops: hops, Up: up}
		if impl.InOk(x) != plainInOk(x) {
			t.Errorf("InOk(%+v): %v", x, impl.InOk(x))
		}
		wantAsPlain(t, b)
		wantOwn(t, b, port, plainOwn(b, port))
		// and what can come in, which what is made of any numbers hardly ever can
		for _, in := range []impl.In{x, tickIn(), linkIn(port&3, up), claimIn(port&3, vecOf(root, cost, bridge, port2), hops&7)} {
			wantReactAsPlain(t, b, in)
		}
		if !sameBridge(b, kept) {
			t.Errorf("was written into: %+v, was %+v", b, kept)
		}
		made, ok := impl.BridgeNew(id, port)
		if want := plainBridgeOk(made); ok != want || ok && (made.Id != id || len(made.Ports) != port) || !ok && !sameBridge(made, impl.Bridge{}) {
			t.Errorf("BridgeNew(%d, %d): %+v %v", id, port, made, ok)
		}
	})
}
