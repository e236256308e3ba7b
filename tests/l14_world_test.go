package tests

import (
	"math"
	"slices"
	"testing"

	"loop.example/g00470/impl"
)

func copyBox(x impl.Box) impl.Box {
	x.Two = slices.Clone(x.Two)
	for at, m := range x.Two {
		x.Two[at] = copyMinder(m)
	}
	x.Net, x.Gates, x.Line, x.Said = slices.Clone(x.Net), slices.Clone(x.Gates), slices.Clone(x.Line), slices.Clone(x.Said)
	return x
}

func sameBox(a impl.Box, b impl.Box) bool {
	return a.Id == b.Id && a.Ports == b.Ports && a.Reg == b.Reg && slices.EqualFunc(a.Two, b.Two, sameMinder) &&
		slices.Equal(a.Net, b.Net) && slices.Equal(a.Gates, b.Gates) && slices.Equal(a.Line, b.Line) && slices.Equal(a.Said, b.Said)
}

func boxBent(x impl.Box, turn func(*impl.Box)) impl.Box {
	x = copyBox(x)
	turn(&x)
	return x
}

func wireOf(from int, life int, n int, x impl.In) impl.Wire {
	return impl.Wire{From: from, Life: life, N: n, In: x}
}

func ackWire(from int, life int, n int) impl.Wire {
	return impl.Wire{From: from, Ack: true, Life: life, N: n}
}

// wiresOf are so many, both ways, with what came and with how much there is.
func wiresOf(count int) []impl.Wire {
	c := &chooser{uint64(count)}
	list := make([]impl.Wire, count)
	for at := range list {
		list[at] = wireOf(at%2, c.below(100001), c.below(100001), c.nextIn())
		if at%3 == 2 {
			list[at] = ackWire(at%2, c.below(100001), c.below(100001))
		}
	}
	return list
}

// outsFrom are so many that turn no gate, each told apart from the others by its number.
func outsFrom(first int, count int) []impl.Out {
	list := make([]impl.Out, count)
	for at := range list {
		list[at] = claimOut((first+at)%4, vecOf(1, 2, 3, (first+at)%4), first+at)
	}
	return list
}

func newBox(id int, ports int) impl.Box {
	x, _ := impl.BoxNew(id, ports)
	return x
}

// plainBox minds at 0 and has some of all.
func plainBox() impl.Box {
	return impl.Box{
		Id: 5, Ports: 3, Reg: regOf(3, 0, 7), Two: []impl.Minder{minding(), heir()}, Net: wiresOf(5),
		Gates: []bool{true, false, true}, Line: logOf(4, 1), Said: outsFrom(100, 3),
	}
}

// fullBox minds at 1 and is at each of its limits.
func fullBox() impl.Box {
	return impl.Box{
		Id: 9, Ports: 4, Reg: regOf(100000, 1, 100000),
		Two: []impl.Minder{
			{Up: true, Life: 100000, Log: logOf(60, 2), Said: 60, Acked: 60, AckLife: 100000},
			{Up: true, Life: 100000, Epoch: 100000, Log: logOf(60, 2), Said: 60, Acked: 60, AckLife: 100000},
		},
		Net: wiresOf(20), Gates: []bool{true, true, false, true}, Line: logOf(60, 2), Said: outsFrom(0, 40),
	}
}

// fallenBox is one whose minders both do not run.
func fallenBox() impl.Box {
	return impl.Box{Id: 1, Ports: 1, Reg: regOf(2, 1, 0), Two: []impl.Minder{{Life: 4}, {}}, Net: wiresOf(1), Gates: []bool{true}, Line: logOf(1, 3), Said: outsFrom(0, 1)}
}

func goodBoxes() []impl.Box {
	list := []impl.Box{plainBox(), fullBox(), fallenBox()}
	for id := 1; id <= 9; id++ {
		for ports := 1; ports <= 4; ports++ {
			list = append(list, newBox(id, ports))
		}
	}
	for count := range 21 {
		x := newBox(1+count%9, 1+count%4)
		x.Net, x.Line, x.Said = wiresOf(count), logOf(count*3, count), outsFrom(count, count*2)
		list = append(list, x)
	}
	some := plainBox()
	for _, m := range goodMinders() {
		r := regOf(max(m.Epoch, 1), 0, 7)
		list = append(list, boxBent(some, func(x *impl.Box) { x.Reg, x.Two[0] = r, m }), boxBent(some, func(x *impl.Box) { x.Two[1] = m }))
	}
	return list
}

// bentWires are none, each for one reason.
func bentWires() []impl.Wire {
	var list []impl.Wire
	for _, n := range edgeNumbers {
		if n != 0 && n != 1 {
			list = append(list, wireOf(n, 2, 3, tickIn()), ackWire(n, 2, 3))
		}
		if n < 0 || n > 100000 {
			list = append(list, wireOf(0, n, 3, tickIn()), ackWire(1, n, 3), wireOf(1, 2, n, linkIn(1, true)), ackWire(0, 2, n))
		}
	}
	for at, no := range bentIns() {
		list = append(list, wireOf(at%2, 2, 3, no))
	}
	for at, in := range goodIns() {
		list = append(list, impl.Wire{From: at % 2, Ack: true, Life: 2, N: 3, In: in})
	}
	for at, no := range bentIns() {
		if no != (impl.In{}) {
			list = append(list, impl.Wire{From: at % 2, Ack: true, Life: 2, N: 3, In: no})
		}
	}
	return list
}

// bentBoxes are none, each for one reason or several.
func bentBoxes() []impl.Box {
	list := []impl.Box{{}, {Id: -1}, {Id: 3, Ports: 2}, {Reg: regOf(1, 0, 0)}}
	some, full := plainBox(), fullBox()
	bend := func(turn func(*impl.Box)) {
		list = append(list, boxBent(some, turn), boxBent(full, turn), boxBent(newBox(3, 2), turn))
	}
	for _, n := range wildNumbers {
		if n < 1 || n > 9 {
			bend(func(x *impl.Box) { x.Id = n })
		}
		bend(func(x *impl.Box) {
			if x.Ports = n; n == len(x.Gates) {
				x.Ports++
			}
		})
	}
	for _, r := range bentRegs() {
		bend(func(x *impl.Box) { x.Reg = r })
	}
	for _, m := range bentMinders() {
		list = append(list, boxBent(some, func(x *impl.Box) { x.Two[0] = m }), boxBent(newBox(3, 2), func(x *impl.Box) { x.Two[1] = m }))
	}
	for count := range 6 {
		if count != 2 {
			bend(func(x *impl.Box) { x.Two = slices.Repeat([]impl.Minder{{Life: 2}}, count) })
			bend(func(x *impl.Box) { x.Two = append(x.Two, x.Two...)[:min(count, 4)] })
		}
	}
	for _, w := range bentWires() {
		list = append(list, boxBent(newBox(3, 2), func(x *impl.Box) { x.Net = []impl.Wire{w} }), boxBent(some, func(x *impl.Box) { x.Net[4] = w }))
	}
	bend(func(x *impl.Box) { x.Net = wiresOf(21) })
	bend(func(x *impl.Box) { x.Net = wiresOf(400) })
	for count := range 7 {
		bend(func(x *impl.Box) {
			if x.Gates = make([]bool, count); count == x.Ports {
				x.Gates = append(x.Gates, true)
			}
		})
	}
	for _, log := range bentLogs() {
		list = append(list, boxBent(some, func(x *impl.Box) { x.Line = log }))
	}
	for _, count := range []int{41, 42, 80, 500} {
		bend(func(x *impl.Box) { x.Said = outsFrom(0, count) })
	}
	return list
}

// plainWireOk, and the plain ones behind it, say again what the chapter says.
func plainWireOk(w impl.Wire) bool {
	if w.From < 0 || w.From > 1 || w.Life < 0 || w.Life > 100000 || w.N < 0 || w.N > 100000 {
		return false
	}
	zero := w.In.Kind == 0 && w.In.Port == 0 && w.In.Vec == vecOf(0, 0, 0, 0) && w.In.Hops == 0 && !w.In.Up
	return w.Ack && zero || !w.Ack && plainInOk(w.In)
}

func plainBoxOk(x impl.Box) bool {
	if x.Id < 1 || x.Id > 9 || x.Ports < 1 || x.Ports > 4 || len(x.Gates) != x.Ports {
		return false
	}
	if len(x.Two) != 2 || len(x.Net) > 20 || len(x.Line) > 60 || len(x.Said) > 40 {
		return false
	}
	for _, w := range x.Net {
		if !plainWireOk(w) {
			return false
		}
	}
	for _, in := range x.Line {
		if !plainInOk(in) {
			return false
		}
	}
	return plainRegOk(x.Reg) && plainMinderOk(x.Two[0]) && plainMinderOk(x.Two[1])
}

func plainAccept(x impl.Box, s int, list []impl.Out) impl.Box {
	next := copyBox(x)
	if s < 0 || s >= len(x.Two) || !plainMinds(x.Reg, s, x.Two[s]) {
		return next
	}
	for port := range next.Gates {
		for _, out := range list {
			if out.Kind == 2 && out.Port == port {
				next.Gates[port] = out.On
			}
		}
	}
	for _, out := range list {
		next.Said = append(next.Said, out)
	}
	for len(next.Said) > 40 {
		next.Said = next.Said[1:]
	}
	return next
}

func wantBoxOk(t *testing.T, x impl.Box, want bool) {
	t.Helper()
	if got := impl.BoxOk(x); got != want {
		t.Errorf("BoxOk(%+v): %v", x, got)
	}
}

func wantAccept(t *testing.T, x impl.Box, s int, list []impl.Out, want impl.Box) {
	t.Helper()
	if got := impl.Accept(x, s, list); !sameBox(got, want) {
		t.Errorf("Accept(%+v, %d, %+v): %+v, want %+v", x, s, list, got, want)
	}
}

// wantNoAccept asks that it stays as it was.
func wantNoAccept(t *testing.T, x impl.Box, s int, list []impl.Out) {
	t.Helper()
	wantAccept(t, x, s, list, x)
}

// wantBoxAsPlain holds all that is asked of x against what the chapter says.
func wantBoxAsPlain(t *testing.T, x impl.Box, lists ...[]impl.Out) {
	t.Helper()
	wantBoxOk(t, x, plainBoxOk(x))
	if got := impl.Released(x); got != len(x.Line) {
		t.Errorf("Released(%+v): %d", x, got)
	}
	for _, s := range []int{0, 1, -1, 2, x.Reg.Owner, 1 - x.Reg.Owner, math.MinInt, math.MaxInt} {
		for _, list := range lists {
			wantAccept(t, x, s, list, plainAccept(x, s, list))
		}
	}
}

// lists are what can be said, and what nobody would say.
func lists() [][]impl.Out {
	return [][]impl.Out{
		nil, {}, {gateOut(0, true)}, {gateOut(0, false)}, {gateOut(1, true), gateOut(0, false), claimOut(1, vecOf(5, 0, 5, 1), 0)},
		{gateOut(3, true), gateOut(4, true), gateOut(-1, true), gateOut(math.MaxInt, true), gateOut(math.MinInt, false)},
		{{}, {Kind: 3, Port: 0, On: true}, {Kind: impl.OuClaim, Port: 1, On: true}, {Kind: -2, On: true}, {Kind: 1<<32 + 2, On: true}},
		{gateOut(2, true), gateOut(2, false), gateOut(2, true)}, outsFrom(7, 39), outsFrom(7, 40), outsFrom(7, 41), slices.Concat([]impl.Out{gateOut(0, true)}, outsFrom(7, 90), []impl.Out{gateOut(1, false)}),
	}
}

func TestBoxLimits(t *testing.T) {
	if impl.MaxNet != 20 || impl.MaxSaid != 40 {
		t.Error("limits", impl.MaxNet, impl.MaxSaid)
	}
}

func TestBoxOk(t *testing.T) {
	for _, x := range goodBoxes() {
		wantBoxOk(t, x, true)
	}
	for _, x := range bentBoxes() {
		wantBoxOk(t, x, false)
	}
}

func TestBoxOkOfIdAndPorts(t *testing.T) {
	for _, id := range slices.Concat(wildNumbers, edgeNumbers) {
		for _, ports := range slices.Concat(wildNumbers, edgeNumbers) {
			isBridge := id >= 1 && id <= 9 && ports >= 1 && ports <= 4
			x := newBox(3, 2)
			// as many gates as ports, as far as there can be so many
			x.Id, x.Ports, x.Gates = id, ports, make([]bool, min(max(ports, 0), 300))
			wantBoxOk(t, x, isBridge)
			for gates := range 7 {
				x.Gates = make([]bool, gates)
				wantBoxOk(t, x, isBridge && gates == ports)
			}
		}
	}
}

func TestBoxOkOfItsRegister(t *testing.T) {
	for _, x := range []impl.Box{newBox(3, 2), plainBox(), fullBox(), fallenBox()} {
		for _, r := range goodRegs() {
			wantBoxOk(t, boxBent(x, func(x *impl.Box) { x.Reg = r }), true)
		}
		for _, r := range bentRegs() {
			wantBoxOk(t, boxBent(x, func(x *impl.Box) { x.Reg = r }), false)
		}
	}
}

func TestBoxOkOfItsMinders(t *testing.T) {
	for s := range 2 {
		for _, m := range goodMinders() {
			wantBoxOk(t, boxBent(newBox(3, 2), func(x *impl.Box) { x.Two[s] = m }), true)
		}
		for _, m := range bentMinders() {
			wantBoxOk(t, boxBent(newBox(3, 2), func(x *impl.Box) { x.Two[s] = m }), false)
		}
	}
	// neither fewer than two nor more
	for count := range 9 {
		wantBoxOk(t, boxBent(newBox(3, 2), func(x *impl.Box) { x.Two = make([]impl.Minder, count) }), count == 2)
		wantBoxOk(t, boxBent(newBox(3, 2), func(x *impl.Box) { x.Two = slices.Repeat([]impl.Minder{upMinder()}, count) }), count == 2)
	}
	wantBoxOk(t, boxBent(newBox(3, 2), func(x *impl.Box) { x.Two = nil }), false)
}

func TestBoxOkOfItsWires(t *testing.T) {
	full := fullBox()
	for count := range 60 {
		wantBoxOk(t, boxBent(plainBox(), func(x *impl.Box) { x.Net = wiresOf(count) }), count <= 20)
		wantBoxOk(t, boxBent(newBox(1, 1), func(x *impl.Box) { x.Net = slices.Repeat([]impl.Wire{ackWire(0, 0, 0)}, count) }), count <= 20)
	}
	wantWire := func(w impl.Wire, want bool) {
		t.Helper()
		wantBoxOk(t, boxBent(newBox(3, 2), func(x *impl.Box) { x.Net = []impl.Wire{w} }), want)
		wantBoxOk(t, boxBent(full, func(x *impl.Box) { x.Net[19] = w }), want)
	}
	for _, n := range edgeNumbers {
		for from := range 2 {
			fits := n >= 0 && n <= 100000
			wantWire(wireOf(n, from, from, tickIn()), n == 0 || n == 1)
			wantWire(ackWire(n, from, from), n == 0 || n == 1)
			wantWire(wireOf(from, n, 1, linkIn(1, false)), fits)
			wantWire(ackWire(from, n, 1), fits)
			wantWire(wireOf(from, 1, n, tickIn()), fits)
			wantWire(ackWire(from, 1, n), fits)
			wantWire(wireOf(from, n, n, tickIn()), fits)
		}
	}
	for _, w := range bentWires() {
		wantWire(w, false)
	}
	// one that is none, at each place
	for at := range 20 {
		for _, w := range []impl.Wire{{}, wireOf(2, 1, 1, tickIn()), ackWire(1, -1, 1), wireOf(0, 1, 100001, tickIn()), {Ack: true, In: tickIn()}} {
			wantBoxOk(t, boxBent(full, func(x *impl.Box) { x.Net[at] = w }), false)
		}
	}
}

// What a wire brings is what came, or, where it tells a count, nothing.
func TestBoxOkOfWhatAWireBrings(t *testing.T) {
	for _, in := range slices.Concat(goodIns(), bentIns()) {
		for from := range 2 {
			x := boxBent(plainBox(), func(x *impl.Box) { x.Net = []impl.Wire{wireOf(from, 2, 3, in)} })
			wantBoxOk(t, x, plainInOk(in))
			x.Net[0].Ack = true
			wantBoxOk(t, x, in == impl.In{})
		}
	}
	// each field of it alone
	for _, in := range []impl.In{{Kind: 1}, {Port: 1}, {Port: -1}, {Vec: vecOf(1, 0, 0, 0)}, {Vec: vecOf(0, 1, 0, 0)}, {Vec: vecOf(0, 0, 1, 0)}, {Vec: vecOf(0, 0, 0, 1)}, {Hops: 1}, {Up: true}} {
		wantBoxOk(t, boxBent(plainBox(), func(x *impl.Box) { x.Net = []impl.Wire{{Ack: true, In: in}} }), false)
	}
}

func TestBoxOkOfItsLineAndWhatItSaid(t *testing.T) {
	for count := range 130 {
		wantBoxOk(t, boxBent(plainBox(), func(x *impl.Box) { x.Line = logOf(count, count) }), count <= 60)
		wantBoxOk(t, boxBent(plainBox(), func(x *impl.Box) { x.Said = outsFrom(0, count) }), count <= 40)
		wantBoxOk(t, boxBent(newBox(1, 1), func(x *impl.Box) { x.Said = make([]impl.Out, count) }), count <= 40)
	}
	for _, log := range goodLogs() {
		wantBoxOk(t, boxBent(newBox(3, 2), func(x *impl.Box) { x.Line = log }), true)
	}
	for _, log := range bentLogs() {
		wantBoxOk(t, boxBent(newBox(3, 2), func(x *impl.Box) { x.Line = log }), false)
	}
	// what was said is counted, and asked for no more
	for _, list := range lists() {
		wantBoxOk(t, boxBent(newBox(3, 2), func(x *impl.Box) { x.Said = list }), len(list) <= 40)
	}
}

// How its parts hang together is asked by the judge, not here.
func TestBoxOkAsksNoMore(t *testing.T) {
	for _, gates := range [][]bool{{true, true}, {false, true}, {true, false}} {
		wantBoxOk(t, boxBent(newBox(3, 2), func(x *impl.Box) { x.Gates = gates }), true)
	}
	// ports that this bridge has not
	wantBoxOk(t, boxBent(newBox(3, 1), func(x *impl.Box) { x.Line = []impl.In{linkIn(3, true)} }), true)
	wantBoxOk(t, boxBent(newBox(3, 1), func(x *impl.Box) { x.Net = []impl.Wire{wireOf(0, 2, 0, linkIn(3, true))} }), true)
	wantBoxOk(t, boxBent(newBox(3, 1), func(x *impl.Box) { x.Two[1].Log = []impl.In{linkIn(3, true)} }), true)
	// nobody minds, or both have the number of who does
	wantBoxOk(t, boxBent(newBox(3, 2), func(x *impl.Box) { x.Reg.Epoch = 9 }), true)
	wantBoxOk(t, boxBent(newBox(3, 2), func(x *impl.Box) { x.Two[1].Epoch = 1 }), true)
	wantBoxOk(t, boxBent(newBox(3, 2), func(x *impl.Box) { x.Two[0].Life, x.Two[1].Life = 2, 2 }), true)
	// more in Line than anybody has
	wantBoxOk(t, boxBent(newBox(3, 2), func(x *impl.Box) { x.Line = logOf(60, 1) }), true)
	// lists with room behind them, but nothing in them
	wantBoxOk(t, boxBent(newBox(3, 2), func(x *impl.Box) {
		x.Net, x.Line, x.Said = make([]impl.Wire, 30)[:0], make([]impl.In, 70)[:0], make([]impl.Out, 50)[:0]
	}), true)
}

func TestBoxNew(t *testing.T) {
	for id := 1; id <= 9; id++ {
		for ports := 1; ports <= 4; ports++ {
			x, ok := impl.BoxNew(id, ports)
			want := impl.Box{Id: id, Ports: ports, Reg: impl.Reg{Epoch: 1, Owner: 0, Pair: 0}, Two: []impl.Minder{{Up: true, Life: 1, Epoch: 1}, {Up: true, Life: 2}}, Gates: make([]bool, ports)}
			if !ok || !sameBox(x, want) {
				t.Errorf("BoxNew(%d, %d): %+v %v, want %+v", id, ports, x, ok, want)
			}
			if x.Id != id || x.Ports != ports || x.Reg.Epoch != 1 || x.Reg.Owner != 0 || x.Reg.Pair != 0 {
				t.Errorf("BoxNew(%d, %d): %+v", id, ports, x)
			}
			if len(x.Net) != 0 || len(x.Line) != 0 || len(x.Said) != 0 || len(x.Gates) != ports || slices.Contains(x.Gates, true) {
				t.Errorf("BoxNew(%d, %d) has something: %+v", id, ports, x)
			}
			wantBoxOk(t, x, true)
			wantMinds(t, x.Reg, 0, x.Two[0], true)
			wantMinds(t, x.Reg, 1, x.Two[1], false)
			if impl.Released(x) != 0 {
				t.Errorf("%d are released of a new box", impl.Released(x))
			}
			// its gates are those of a new bridge
			wantGates(t, impl.BridgeOf(id, ports, nil), x.Gates...)
		}
	}
}

func TestBoxNewOfNone(t *testing.T) {
	for _, id := range slices.Concat(wildNumbers, edgeNumbers) {
		for _, ports := range slices.Concat(wildNumbers, edgeNumbers) {
			isBridge := id >= 1 && id <= 9 && ports >= 1 && ports <= 4
			x, ok := impl.BoxNew(id, ports)
			if ok != isBridge || !ok && !sameBox(x, impl.Box{}) || ok != impl.BoxOk(x) {
				t.Errorf("BoxNew(%d, %d): %+v %v", id, ports, x, ok)
			}
		}
	}
}

func TestReleased(t *testing.T) {
	boxes := []impl.Box{{}, newBox(3, 2), plainBox(), fullBox(), fallenBox()}
	for count := range 130 {
		log := logOf(count, count)
		for _, x := range boxes {
			// also of what is none, of what can't come in, and whatever its minders have
			for _, log := range [][]impl.In{log, make([]impl.In, count)} {
				x.Line = log
				if got := impl.Released(x); got != count {
					t.Errorf("Released of %d: %d", count, got)
				}
			}
		}
	}
	if got := impl.Released(impl.Box{Line: logOf(9, 1)[:4]}); got != 4 {
		t.Errorf("Released of 4, and room behind them: %d", got)
	}
}

// Who minds is listened to, and nobody else.
func TestAccept(t *testing.T) {
	for owner := range 2 {
		x := newBox(3, 2)
		x.Reg.Owner = owner
		x.Two[0], x.Two[1] = x.Two[owner], x.Two[1-owner]
		list := []impl.Out{gateOut(1, true), claimOut(0, vecOf(3, 0, 3, 0), 0)}
		wantAccept(t, x, owner, list, boxBent(x, func(x *impl.Box) { x.Gates, x.Said = []bool{false, true}, list }))
		for _, s := range slices.Concat(edgeNumbers, wildNumbers) {
			if s != owner {
				wantNoAccept(t, x, s, list)
			}
		}
		// who said the same twice said it twice
		twice := impl.Accept(impl.Accept(x, owner, list), owner, list)
		if want := slices.Concat(list, list); !slices.Equal(twice.Said, want) || !slices.Equal(twice.Gates, []bool{false, true}) {
			t.Errorf("twice: %+v", twice)
		}
	}
	// all else stays as it is
	x := plainBox()
	wantAccept(t, x, 0, []impl.Out{gateOut(0, false), gateOut(1, true)}, boxBent(x, func(x *impl.Box) {
		x.Gates = []bool{false, true, true}
		x.Said = append(outsFrom(100, 3), gateOut(0, false), gateOut(1, true))
	}))
	wantAccept(t, x, 0, nil, x)
	wantAccept(t, x, 0, []impl.Out{}, x)
}

func TestAcceptOfWhoDoesNotMind(t *testing.T) {
	list := []impl.Out{gateOut(0, false), gateOut(1, true), claimOut(0, vecOf(3, 0, 3, 0), 0)}
	x := plainBox()
	wantNoAccept(t, x, 1, list)
	for _, n := range edgeNumbers {
		// as another number
		if n != 3 {
			wantNoAccept(t, boxBent(x, func(x *impl.Box) { x.Reg.Epoch = n }), 0, list)
			wantNoAccept(t, boxBent(x, func(x *impl.Box) { x.Two[0].Epoch = n }), 0, list)
		}
		if n != 0 && n != 1 {
			// an owner that is none, at no place
			for _, s := range []int{0, 1, 2, n} {
				wantNoAccept(t, boxBent(x, func(x *impl.Box) { x.Reg.Owner = n }), s, list)
			}
		}
	}
	// the number of who minds, at the place of the other one
	both := boxBent(x, func(x *impl.Box) { x.Two[1].Epoch = 3 })
	wantNoAccept(t, both, 1, list)
	wantAccept(t, both, 0, list, plainAccept(both, 0, list))
	// nobody runs, and nobody is there
	wantNoAccept(t, fallenBox(), 0, list)
	wantNoAccept(t, fallenBox(), 1, list)
	wantNoAccept(t, boxBent(x, func(x *impl.Box) { x.Two[0] = impl.Minder{Life: 5} }), 0, list)
	for s := -1; s < 3; s++ {
		wantNoAccept(t, impl.Box{}, s, list)
		wantNoAccept(t, impl.Box{Reg: regOf(1, 0, 0), Gates: []bool{true, false}}, s, list)
		wantNoAccept(t, impl.Box{Reg: regOf(1, 1, 0), Two: []impl.Minder{upMinder()}, Gates: []bool{true, false}}, s, list)
	}
	// what is no register, and what is no minder
	for _, r := range bentRegs() {
		wantNoAccept(t, boxBent(x, func(x *impl.Box) { x.Reg, x.Two[0].Epoch = r, r.Epoch }), 0, list)
	}
	for _, m := range bentMinders() {
		wantNoAccept(t, boxBent(x, func(x *impl.Box) { x.Reg.Epoch, x.Two[0] = min(max(m.Epoch, 1), 100000), m }), 0, list)
	}
	// what was said beyond its room stays there, too
	wantNoAccept(t, boxBent(x, func(x *impl.Box) { x.Said = outsFrom(0, 50) }), 1, list)
	wantNoAccept(t, boxBent(x, func(x *impl.Box) { x.Said = outsFrom(0, 50) }), 1, nil)
}

// Gates are turned by what is said of them, in order, and by nothing else.
func TestAcceptTurnsGates(t *testing.T) {
	shut, open := []bool{false, false, false, false}, []bool{true, true, true, true}
	wantGatesBehind := func(was []bool, list []impl.Out, want []bool) {
		t.Helper()
		x := boxBent(newBox(5, len(was)), func(x *impl.Box) { x.Gates = slices.Clone(was) })
		wantAccept(t, x, 0, list, boxBent(x, func(x *impl.Box) { x.Gates, x.Said = want, list }))
	}
	for port := range 4 {
		one := slices.Clone(shut)
		one[port] = true
		wantGatesBehind(shut, []impl.Out{gateOut(port, true)}, one)
		wantGatesBehind(shut, []impl.Out{gateOut(port, false)}, shut)
		wantGatesBehind(open, []impl.Out{gateOut(port, true)}, open)
		wantGatesBehind(one, []impl.Out{gateOut(port, false)}, shut)
		// the last one counts
		wantGatesBehind(shut, []impl.Out{gateOut(port, true), gateOut(port, false)}, shut)
		wantGatesBehind(shut, []impl.Out{gateOut(port, true), gateOut(port, false), gateOut(port, true)}, one)
		wantGatesBehind(open, []impl.Out{gateOut(0, false), gateOut(1, false), gateOut(2, false), gateOut(3, false), gateOut(port, true)}, one)
		// other things turn none, whatever they say beside it
		for _, kind := range wildNumbers {
			if kind != 2 {
				wantGatesBehind(shut, []impl.Out{{Kind: kind, Port: port, On: true}}, shut)
				wantGatesBehind(open, []impl.Out{{Kind: kind, Port: port}}, open)
			}
		}
		wantGatesBehind(shut, []impl.Out{{Kind: impl.OuGate, Port: port, Vec: vecOf(1, 2, 3, 0), Hops: 77, On: true}}, one)
		wantGatesBehind(shut, []impl.Out{claimOut(port, vecOf(5, 0, 5, port), 0), gateOut(port, true), claimOut(port, vecOf(5, 0, 5, port), 0)}, one)
	}
	// all ways in which they were, to all in which they can be
	for was := range 16 {
		for now := range 16 {
			var list []impl.Out
			begin, want := make([]bool, 4), make([]bool, 4)
			for port := range 4 {
				begin[port], want[port] = was>>port&1 == 1, now>>port&1 == 1
				if begin[port] != want[port] {
					list = append(list, gateOut(port, want[port]))
				}
			}
			wantGatesBehind(begin, list, want)
			slices.Reverse(list)
			wantGatesBehind(begin, list, want)
		}
	}
}

// What is said of a gate that is not there turns none, but it was said.
func TestAcceptOfAGateThatIsNone(t *testing.T) {
	for ports := 1; ports <= 4; ports++ {
		for _, port := range slices.Concat(wildNumbers, edgeNumbers, []int{-3, -4, ports, ports + 1, ports + 1<<32, 1<<32 - 1, -1 << 63}) {
			if port >= 0 && port < ports {
				continue
			}
			for _, on := range []bool{false, true} {
				x := newBox(5, ports)
				x.Gates = slices.Repeat([]bool{!on}, ports)
				wantAccept(t, x, 0, []impl.Out{gateOut(port, on)}, boxBent(x, func(x *impl.Box) { x.Said = []impl.Out{gateOut(port, on)} }))
				// those beside it are turned
				list := []impl.Out{gateOut(port, on), gateOut(0, on), gateOut(port, !on)}
				wantAccept(t, x, 0, list, boxBent(x, func(x *impl.Box) { x.Gates[0], x.Said = on, list }))
			}
		}
	}
}

// Of what was said the last ones are kept, as many as there is room for.
func TestAcceptBeyondItsRoom(t *testing.T) {
	for had := range 41 {
		for more := range 131 {
			x := boxBent(newBox(5, 2), func(x *impl.Box) { x.Said = outsFrom(0, had) })
			first := max(0, had+more-40)
			got := impl.Accept(x, 0, outsFrom(had, more))
			if !sameBox(got, boxBent(x, func(x *impl.Box) { x.Said = outsFrom(first, had+more-first) })) {
				t.Fatalf("%d behind %d: %+v", more, had, got)
			}
			if len(got.Said) != min(40, had+more) || len(got.Said) > 0 && (got.Said[0].Hops != first || got.Said[len(got.Said)-1].Hops != had+more-1) {
				t.Fatalf("%d behind %d: %+v", more, had, got.Said)
			}
			wantBoxOk(t, got, true)
		}
	}
	// of a very long one, too
	got := impl.Accept(fullBox(), 1, outsFrom(1000, 100000))
	if !slices.Equal(got.Said, outsFrom(1000, 100000)[99960:]) {
		t.Errorf("of a very long list: %+v", got.Said)
	}
}

// A gate is turned also by what there is no room for any more; what was said once turns nothing again.
func TestAcceptTurnsGatesBeyondItsRoom(t *testing.T) {
	for _, more := range []int{0, 38, 39, 40, 41, 60, 200} {
		for had := 0; had <= 40; had += 8 {
			x := boxBent(newBox(5, 2), func(x *impl.Box) { x.Said = outsFrom(0, had) })
			list := slices.Concat([]impl.Out{gateOut(0, true), gateOut(1, true), gateOut(0, false)}, outsFrom(500, more))
			want := slices.Concat(x.Said, list)
			wantAccept(t, x, 0, list, boxBent(x, func(x *impl.Box) {
				x.Gates, x.Said = []bool{false, true}, want[max(0, len(want)-40):]
			}))
		}
	}
	x := boxBent(newBox(5, 2), func(x *impl.Box) { x.Said = slices.Repeat([]impl.Out{gateOut(0, true)}, 40) })
	wantAccept(t, x, 0, nil, x)
	wantAccept(t, x, 0, []impl.Out{gateOut(1, true)}, boxBent(x, func(x *impl.Box) { x.Gates[1], x.Said[39] = true, gateOut(1, true) }))
}

// Whether it is a box is not asked: who minds is listened to by the gates that there are.
func TestAcceptOfWhatIsNoBox(t *testing.T) {
	list := []impl.Out{gateOut(0, true), gateOut(1, true), gateOut(2, true), gateOut(5, true)}
	for gates := range 8 {
		for _, ports := range []int{-1, 0, 1, 2, 5, math.MaxInt} {
			x := boxBent(newBox(5, 2), func(x *impl.Box) { x.Ports, x.Gates = ports, make([]bool, gates) })
			wantAccept(t, x, 0, list, plainAccept(x, 0, list))
			wantNoAccept(t, x, 1, list)
		}
	}
	for _, turn := range []func(*impl.Box){
		func(x *impl.Box) { x.Id = 0 }, func(x *impl.Box) { x.Two = x.Two[:1] }, func(x *impl.Box) { x.Two = append(x.Two, x.Two...) }, func(x *impl.Box) { x.Two[1].Life = -1 },
		func(x *impl.Box) { x.Net = make([]impl.Wire, 30) }, func(x *impl.Box) { x.Line = make([]impl.In, 70) }, func(x *impl.Box) { x.Said = outsFrom(0, 41) }, func(x *impl.Box) { x.Said = outsFrom(0, 300) },
	} {
		x := boxBent(newBox(5, 2), turn)
		wantBoxOk(t, x, false)
		for _, list := range lists() {
			wantAccept(t, x, 0, list, plainAccept(x, 0, list))
			for _, s := range []int{-1, 1, 2, 3} {
				wantNoAccept(t, x, s, list)
			}
		}
	}
}

func TestBoxAsTheChapterSays(t *testing.T) {
	for _, x := range slices.Concat(goodBoxes(), bentBoxes()) {
		wantBoxAsPlain(t, x, lists()...)
		if t.Failed() {
			t.FailNow()
		}
	}
	// few numbers, each with each
	for epoch := range 3 {
		for owner := -1; owner < 3; owner++ {
			eachSmallMinder(func(m impl.Minder) {
				for s := range 2 {
					x := boxBent(newBox(5, 2), func(x *impl.Box) { x.Reg, x.Two[s] = regOf(epoch, owner, 2), m })
					wantBoxAsPlain(t, x, lists()[4])
				}
			})
		}
	}
}

// says lets minder s say what it makes of the one at place n of its log.
func says(x impl.Box, s int, n int) impl.Box {
	return impl.Accept(x, s, impl.Saying(x.Id, x.Ports, x.Two[s].Log, n))
}

// The gates are those of the bridge of who minds, whatever the other one says in between.
func TestGatesListenToWhoMinds(t *testing.T) {
	turned, long := 0, 0
	eachBridge(func(id int, ports int, log []impl.In) {
		log = slices.DeleteFunc(slices.Clone(log), func(x impl.In) bool { return !impl.InOk(x) })
		x := newBox(id, ports)
		x.Two[0].Log, x.Two[1].Log = log, upLog(ports)
		others := saidOf(id, ports, x.Two[1].Log)
		var all []impl.Out
		for n := range log {
			was := x
			all = append(all, impl.Saying(id, ports, log, n)...)
			x = says(x, 0, n)
			for _, said := range others {
				wantNoAccept(t, x, 1, said)
			}
			wantGates(t, impl.BridgeOf(id, ports, log[:n+1]), x.Gates...)
			if !slices.Equal(x.Said, all[max(0, len(all)-40):]) || !impl.BoxOk(x) {
				t.Fatalf("bridge %d, %d of %+v: said %+v", id, n, log, x.Said)
			}
			turned += oneOf(!slices.Equal(was.Gates, x.Gates))
		}
		long += oneOf(len(all) > 40)
	})
	if turned < 300 || long < 10 {
		t.Errorf("only %d times gates turned, %d times there was no room", turned, long)
	}
}

func oneOf(is bool) int {
	if is {
		return 1
	}
	return 0
}

// Where it is taken over, the gates go on with who took, and turn no more for who minded.
func TestGatesTurnToWhoTook(t *testing.T) {
	eachBridge(func(id int, ports int, log []impl.In) {
		log = slices.DeleteFunc(slices.Clone(log), func(x impl.In) bool { return !impl.InOk(x) })
		x := newBox(id, ports)
		x.Two[0].Log, x.Two[1].Log = slices.Clone(log), slices.Clone(log)
		s := 0
		for n := range log {
			if n%5 == 4 {
				past := copyMinder(x.Two[s])
				x.Two[s].Acked, x.Two[s].AckLife = len(log), x.Two[1-s].Life
				x = paired(t, x, s)
				s = 1 - s
				x = tookOver(t, x, s)
				for _, m := range []impl.Minder{past, x.Two[1-s]} {
					x.Two[1-s] = m
					wantNoAccept(t, x, 1-s, []impl.Out{gateOut(0, !x.Gates[0])})
					wantNoAccept(t, x, 1-s, impl.Saying(id, ports, log, n))
				}
			}
			x = says(x, s, n)
			wantGates(t, impl.BridgeOf(id, ports, log[:n+1]), x.Gates...)
		}
		if x.Reg.Epoch != 1+len(log)/5 {
			t.Fatalf("taken over %d times, of %d", x.Reg.Epoch-1, len(log))
		}
	})
}

func paired(t *testing.T, x impl.Box, s int) impl.Box {
	t.Helper()
	r, ok := impl.Pairs(x.Reg, s, x.Two[s], x.Two[s].AckLife)
	if !ok {
		t.Fatalf("does not pair: %+v", x)
	}
	x.Reg = r
	return x
}

func tookOver(t *testing.T, x impl.Box, s int) impl.Box {
	t.Helper()
	r, m, ok := impl.Take(x.Reg, s, x.Two[s])
	if !ok {
		t.Fatalf("does not take: %+v", x)
	}
	x.Reg, x.Two[s] = r, m
	return x
}

// Whoever says whatever: the gates turn for the owner, in its number, and for nobody else.
func TestGatesListenToWhoMindsOfAny(t *testing.T) {
	heard, refused := 0, 0
	for _, x := range slices.Concat(goodBoxes(), bentBoxes()) {
		var turn []impl.Out
		for port, open := range x.Gates {
			turn = append(turn, gateOut(port, !open))
		}
		for s := -1; s < 4; s++ {
			minds := s >= 0 && s < len(x.Two) && impl.Minds(x.Reg, s, x.Two[s])
			got := impl.Accept(x, s, turn)
			if minds && len(turn) > 0 {
				heard++
				if slices.Equal(got.Gates, x.Gates) || slices.Equal(got.Said, x.Said) {
					t.Fatalf("minder %d of %+v is not listened to: %+v", s, x, got)
				}
			} else if !minds {
				refused++
				if !sameBox(got, x) {
					t.Fatalf("minder %d of %+v is listened to: %+v", s, x, got)
				}
			}
		}
	}
	if heard < 400 || refused < 400 {
		t.Errorf("%d were heard, %d refused", heard, refused)
	}
}

// What is asked twice of the same is answered twice the same: nothing is kept.
func TestBoxKeepsNothing(t *testing.T) {
	x, y, list := plainBox(), fullBox(), lists()
	for range 4 {
		for _, one := range list {
			wantAccept(t, x, 0, one, plainAccept(x, 0, one))
			wantAccept(t, y, 1, one, plainAccept(y, 1, one))
		}
		scrawlBox(newBox(5, 2))
		if again := newBox(5, 2); again.Gates[0] || again.Two[0].Life != 1 || again.Two[1].Life != 2 || !impl.BoxOk(again) {
			t.Errorf("BoxNew: %+v", again)
		}
	}
}

// scrawlBox writes over all of its lists, and over the room behind them.
func scrawlBox(x impl.Box) {
	for _, m := range x.Two {
		scrawl(m.Log, impl.In{Kind: 77})
	}
	scrawl(x.Two, impl.Minder{Life: 77})
	scrawl(x.Net, impl.Wire{N: 77})
	for at, open := range x.Gates[:cap(x.Gates)] {
		x.Gates[:cap(x.Gates)][at] = !open
	}
	scrawl(x.Line, impl.In{Kind: 77})
	scrawl(x.Said, impl.Out{Kind: 77})
}

// roomy is the same box, each of whose lists has room behind it with something in it.
func roomy(x impl.Box) impl.Box {
	x = copyBox(x)
	for at, m := range x.Two {
		x.Two[at].Log = append(slices.Clone(m.Log), impl.In{Kind: 78}, impl.In{Kind: 79})[:len(m.Log)]
	}
	x.Two = append(x.Two, impl.Minder{Life: 78}, impl.Minder{Life: 79})[:len(x.Two)]
	x.Net = append(x.Net, impl.Wire{N: 78}, impl.Wire{N: 79})[:len(x.Net)]
	x.Gates = append(x.Gates, true, false, true)[:len(x.Gates)]
	x.Line = append(x.Line, impl.In{Kind: 78}, impl.In{Kind: 79})[:len(x.Line)]
	x.Said = append(slices.Grow(x.Said, 90), impl.Out{Kind: 78}, impl.Out{Kind: 79})[:len(x.Said)]
	return x
}

// behind is x with all the room behind its lists, as a box of its own.
func behind(x impl.Box) impl.Box {
	x.Two = slices.Clone(x.Two[:cap(x.Two)])
	for at, m := range x.Two {
		x.Two[at].Log = slices.Clone(m.Log[:cap(m.Log)])
	}
	x.Net, x.Gates, x.Line, x.Said = slices.Clone(x.Net[:cap(x.Net)]), slices.Clone(x.Gates[:cap(x.Gates)]), slices.Clone(x.Line[:cap(x.Line)]), slices.Clone(x.Said[:cap(x.Said)])
	return x
}

// askBox asks all of the chapter of x.
func askBox(x impl.Box, list []impl.Out) {
	impl.BoxOk(x)
	impl.Released(x)
	for s := -1; s < 3; s++ {
		impl.Accept(x, s, list)
	}
}

func TestBoxWritesIntoNoArgument(t *testing.T) {
	for at, x := range slices.Concat(goodBoxes(), bentBoxes()) {
		if at%3 != 0 && at > 100 {
			continue
		}
		x = roomy(x)
		kept := behind(x)
		for _, list := range lists() {
			list = append(slices.Clone(list), gateOut(0, true), impl.Out{Kind: 79})[:len(list)]
			said := slices.Clone(list[:cap(list)])
			askBox(x, list)
			if !sameBox(behind(x), kept) || !slices.Equal(list[:cap(list)], said) {
				t.Fatalf("written into: %+v %+v, was %+v %+v", behind(x), list[:cap(list)], kept, said)
			}
		}
	}
	// what is said is a piece of what was said, with room behind it
	all := outsFrom(0, 80)
	kept := slices.Clone(all)
	for from := 0; from <= 40; from += 4 {
		for to := from; to <= 40; to += 4 {
			x := newBox(5, 2)
			x.Said = all[:to]
			got := impl.Accept(x, 0, all[from:to])
			want := slices.Concat(kept[:to], kept[from:to])
			if !slices.Equal(all, kept) || !slices.Equal(got.Said, want[max(0, len(want)-40):]) {
				t.Fatalf("%d to %d: %+v, %+v", from, to, got.Said, all)
			}
			scrawlBox(got)
			if !slices.Equal(all, kept) {
				t.Fatalf("%d to %d is shared: %+v", from, to, all)
			}
		}
	}
}

// wantOwnBox writes over what Accept answered, and over what it was handed, and looks whether the other ones stay.
func wantOwnBox(t *testing.T, x impl.Box, s int, list []impl.Out) {
	t.Helper()
	x, list = roomy(x), slices.Concat(list, []impl.Out{gateOut(0, true)})[:len(list)]
	kept, said := behind(x), slices.Clone(list[:cap(list)])
	one, two := impl.Accept(x, s, list), impl.Accept(x, s, list)
	want := copyBox(two)
	scrawlBox(one)
	if !sameBox(behind(x), kept) || !slices.Equal(list[:cap(list)], said) || !sameBox(two, want) {
		t.Fatalf("Accept(%+v, %d, %+v) shares memory: %+v", kept, s, said, two)
	}
	scrawlBox(x)
	scrawl(list, impl.Out{Kind: 77})
	if !sameBox(two, want) {
		t.Fatalf("what Accept(%+v, %d, %+v) answered is now %+v", kept, s, said, two)
	}
}

func TestAcceptSharesNoMemory(t *testing.T) {
	for at, x := range slices.Concat(goodBoxes(), bentBoxes()) {
		if len(x.Net) > 100 || len(x.Line) > 200 || at%3 != 0 && at > 100 {
			continue
		}
		for _, list := range lists() {
			wantOwnBox(t, x, 0, list)
			wantOwnBox(t, x, 1, list)
			wantOwnBox(t, x, 2, list)
		}
	}
}

func TestBoxNewSharesNoMemory(t *testing.T) {
	for id := 0; id <= 10; id++ {
		for ports := 0; ports <= 5; ports++ {
			one, two := newBox(id, ports), newBox(id, ports)
			kept := copyBox(two)
			scrawlBox(one)
			if !sameBox(two, kept) {
				t.Fatalf("BoxNew(%d, %d) shares memory: %+v", id, ports, two)
			}
			wantApartInBox(t, two)
		}
	}
}

// wantApartInBox writes over one list of inputs after the other, and asks that no other one turns.
func wantApartInBox(t *testing.T, x impl.Box) {
	t.Helper()
	var all [][]impl.In
	for _, m := range x.Two {
		all = append(all, m.Log)
	}
	all = append(all, x.Line)
	var kept [][]impl.In
	for _, log := range all {
		kept = append(kept, slices.Clone(log))
	}
	for at, log := range all {
		scrawl(log, impl.In{Kind: 77 + at})
		for other, log := range all {
			if other > at && !slices.Equal(log, kept[other]) {
				t.Fatalf("lists %d and %d of one answer share memory", at, other)
			}
		}
	}
}

// No two lists of one answer share memory, even where those that were handed in are one.
func TestListsOfABoxAreApart(t *testing.T) {
	for _, list := range lists() {
		for s := -1; s < 3; s++ {
			log := logOf(9, 1)
			x := newBox(5, 2)
			x.Two[0].Log, x.Two[1].Log, x.Line = log, log, log
			wantApartInBox(t, impl.Accept(x, s, list))
			// one list in three pieces
			x.Two[0].Log, x.Two[1].Log, x.Line = log[:3], log[3:6], log[6:]
			wantApartInBox(t, impl.Accept(x, s, list))
			// what was said is what is said
			x.Said = slices.Concat(list, list)[:len(list)]
			want := plainAccept(x, s, x.Said)
			got := impl.Accept(x, s, x.Said)
			scrawl(x.Said, impl.Out{Kind: 77})
			if !slices.Equal(got.Said, want.Said) || !slices.Equal(got.Gates, want.Gates) {
				t.Fatalf("what was said behind itself: %+v, want %+v", got.Said, want.Said)
			}
		}
	}
}

func FuzzBox(f *testing.F) {
	f.Add(5, 2, uint8(2), 1, 0, 0, 0, 1, 1, uint8(3), 0, 2, 1, false, uint8(5), uint8(4), impl.OuGate, 1, true)
	f.Add(9, 4, uint8(4), 100000, 1, 100000, 1, 100000, 100000, uint8(20), 1, 100000, 100000, true, uint8(40), uint8(41), impl.OuClaim, 3, false)
	f.Add(0, 5, uint8(5), 0, 2, -1, -1, 0, 0, uint8(21), 2, -1, 100001, true, uint8(41), uint8(200), 3, -1, true)
	f.Add(3, 1, uint8(1), 7, 1, 3, 1, 3, 7, uint8(0), -1, math.MaxInt, math.MinInt, false, uint8(39), uint8(1), impl.OuGate, math.MaxInt, true)
	f.Fuzz(func(t *testing.T, id int, ports int, gates uint8, epoch int, owner int, pair int, s int, life int, number int, wires uint8, from int, wireLife int, n int, ack bool, had uint8, more uint8, kind int, port int, on bool) {
		x := newBox(1+id&7, 1+ports&3)
		x.Reg, x.Line, x.Said = regOf(epoch, owner, pair), logOf(int(had), life), outsFrom(0, int(had))
		x.Two[s&1] = impl.Minder{Up: ack || on, Life: life, Epoch: number, Log: logOf(int(wires), n)}
		x.Net = append(wiresOf(int(wires)), impl.Wire{From: from, Ack: ack, Life: wireLife, N: n, In: impl.In{Kind: kind, Port: port, Up: on}})
		list := slices.Concat(outsFrom(900, int(more)/2), []impl.Out{{Kind: kind, Port: port, On: on}, gateOut(port, !on)}, outsFrom(2000, int(more)-int(more)/2))
		for _, x := range []impl.Box{
			x, boxBent(x, func(x *impl.Box) { x.Id, x.Ports, x.Gates = id, ports, make([]bool, gates) }),
			boxBent(x, func(x *impl.Box) { x.Reg, x.Two[s&1] = regOf(1+epoch&0xffff, s&1, pair), upMinder() }),
			boxBent(x, func(x *impl.Box) { x.Reg, x.Two[s&1].Epoch = regOf(number, s&1, pair&0xffff), number }),
			boxBent(x, func(x *impl.Box) {
				x.Net, x.Line, x.Said = x.Net[:min(len(x.Net), 20)], x.Line[:min(len(x.Line), 60)], x.Said[:min(len(x.Said), 40)]
			}),
			boxBent(newBox(2, 3), func(x *impl.Box) { x.Net = []impl.Wire{{From: from & 1, Ack: ack, Life: wireLife, N: n}} }),
			boxBent(newBox(2, 3), func(x *impl.Box) { x.Said = outsFrom(0, int(had)) }),
		} {
			kept := copyBox(x)
			wantBoxAsPlain(t, x, list, nil, list[:len(list)/2])
			if !sameBox(x, kept) {
				t.Errorf("was written into: %+v, was %+v", x, kept)
			}
		}
		fresh, ok := impl.BoxNew(id, ports)
		if ok != (id >= 1 && id <= 9 && ports >= 1 && ports <= 4) || ok != plainBoxOk(fresh) || !ok && !sameBox(fresh, impl.Box{}) {
			t.Errorf("BoxNew(%d, %d): %+v %v", id, ports, fresh, ok)
		}
	})
}
