package tests

import (
	"math"
	"slices"
	"sync"
	"testing"

	"loop.example/g00470/impl"
)

var allKinds = []int{impl.DdIn, impl.DdShip, impl.DdGive, impl.DdLose, impl.DdTwice, impl.DdSay, impl.DdFall, impl.DdRise, impl.DdTake, impl.DdPair, impl.DdAlone, impl.DdYield}

var minderKinds = []int{impl.DdShip, impl.DdFall, impl.DdRise, impl.DdTake, impl.DdPair, impl.DdAlone, impl.DdYield}

var wireKinds = []int{impl.DdGive, impl.DdLose, impl.DdTwice}

func deedOf(kind int, a int) impl.Deed { return impl.Deed{Kind: kind, A: a} }

func inDeed(x impl.In) impl.Deed { return impl.Deed{Kind: impl.DdIn, In: x} }

func sayDeed() impl.Deed { return impl.Deed{Kind: impl.DdSay} }

// deedsFor are deeds of all kinds that x can be asked for, those of wires and minders that are none among them.
func deedsFor(x impl.Box) []impl.Deed {
	list := []impl.Deed{{}, {Kind: 13}, sayDeed(), inDeed(tickIn()), inDeed(linkIn(0, true)), inDeed(claimIn(1, vecOf(1, 2, 3, 1), 2)), inDeed(linkIn(3, true)), inDeed(impl.In{})}
	for a := -1; a < 3; a++ {
		for _, kind := range minderKinds {
			list = append(list, deedOf(kind, a))
		}
	}
	for a := -1; a <= len(x.Net); a++ {
		if a > 6 && a < len(x.Net)-2 {
			continue
		}
		for _, kind := range wireKinds {
			list = append(list, deedOf(kind, a))
		}
	}
	return list
}

// plainDo, and the plain ones behind it, say again what the chapter says.
func plainDo(x impl.Box, d impl.Deed) (impl.Box, int) {
	if !plainBoxOk(x) || d.Kind < 1 || d.Kind > 12 {
		return impl.Box{}, 1
	}
	next := copyBox(x)
	code := plainAsked(x, d)
	if code == 0 {
		code = plainTry(&next, d)
	}
	if code == 0 && !plainBoxOk(next) {
		code = 4
	}
	if code != 0 {
		return copyBox(x), code
	}
	return next, 0
}

func plainAsked(x impl.Box, d impl.Deed) int {
	switch d.Kind {
	case 1, 6:
		return 0
	case 3, 4, 5:
		if d.A < 0 || d.A >= len(x.Net) {
			return 2
		}
	default:
		if d.A != 0 && d.A != 1 {
			return 2
		}
	}
	return 0
}

func plainTry(x *impl.Box, d impl.Deed) int {
	owner := x.Reg.Owner
	minds := plainMinds(x.Reg, owner, x.Two[owner])
	switch d.Kind {
	case 1:
		if !minds || !plainInOk(d.In) || d.In.Port >= x.Ports {
			return 3
		}
		m, ok := plainNote(x.Two[owner], d.In)
		if !ok {
			return 4
		}
		x.Two[owner] = m
	case 2:
		return plainShip(x, d.A)
	case 3:
		plainGive(x, d.A)
	case 4:
		x.Net = append(x.Net[:d.A:d.A], x.Net[d.A+1:]...)
	case 5:
		if len(x.Net) == 20 {
			return 4
		}
		x.Net = append(x.Net, x.Net[d.A])
	case 6:
		return plainSay(x, minds)
	default:
		return plainTurned(x, d)
	}
	return 0
}

func plainShip(x *impl.Box, a int) int {
	m, other := x.Two[a], x.Two[1-a]
	n := 0
	if m.AckLife == other.Life {
		n = m.Acked
	}
	if !plainMinds(x.Reg, a, m) || n >= len(m.Log) {
		return 3
	}
	if len(x.Net) == 20 {
		return 4
	}
	x.Net = append(x.Net, impl.Wire{From: a, Life: other.Life, N: n, In: m.Log[n]})
	return 0
}

func plainGive(x *impl.Box, a int) {
	w := x.Net[a]
	x.Net = append(x.Net[:a:a], x.Net[a+1:]...)
	to := 1 - w.From
	m := &x.Two[to]
	if !m.Up {
		return
	}
	if w.Ack {
		if plainMinds(x.Reg, to, *m) && (w.Life > m.AckLife || w.Life == m.AckLife && w.N > m.Acked) {
			m.AckLife, m.Acked = w.Life, w.N
			if m.Acked > len(m.Log) {
				m.Acked = len(m.Log)
			}
		}
		return
	}
	if w.Life != m.Life {
		return
	}
	if m.Epoch == 0 && w.N == len(m.Log) && len(m.Log) < 60 {
		m.Log = append(m.Log, w.In)
	}
	if len(x.Net) < 20 {
		x.Net = append(x.Net, impl.Wire{From: to, Ack: true, Life: m.Life, N: len(m.Log)})
	}
}

func plainSay(x *impl.Box, minds bool) int {
	owner := x.Reg.Owner
	if !minds || !plainReady(x.Two[owner], x.Reg.Pair) {
		return 3
	}
	m := x.Two[owner]
	_, all := plainTelling(x.Id, x.Ports, m.Log)
	*x = plainAccept(*x, owner, all[m.Said])
	x.Two[owner].Said = m.Said + 1
	if len(x.Line) < m.Said+1 {
		x.Line = append(x.Line, m.Log[m.Said])
	}
	return 0
}

// plainTurned is of what turns the minders and the register.
func plainTurned(x *impl.Box, d impl.Deed) int {
	m := &x.Two[d.A]
	risen := impl.Minder{Up: true, Life: 1 + max(x.Two[0].Life, x.Two[1].Life)}
	switch {
	case d.Kind == 7 && m.Up:
		*m = impl.Minder{Life: m.Life}
	case d.Kind == 8 && !m.Up:
		*m = risen
	case d.Kind == 12 && m.Up && m.Epoch != 0 && !plainMinds(x.Reg, d.A, *m):
		*m = risen
	case d.Kind == 9:
		r, taken, ok := plainTake(x.Reg, d.A, *m)
		if !ok {
			return 3
		}
		taken.Said = len(x.Line)
		x.Reg, *m = r, taken
	case d.Kind == 10 || d.Kind == 11:
		pair := m.AckLife
		if d.Kind == 11 {
			pair = 0
		}
		r, ok := plainPairs(x.Reg, d.A, *m, pair)
		if !ok {
			return 3
		}
		x.Reg = r
	default:
		return 3
	}
	return 0
}

func plainDoAll(x impl.Box, list []impl.Deed) (impl.Box, []int) {
	if !plainBoxOk(x) || len(list) > 300 {
		return copyBox(x), nil
	}
	var codes []int
	for _, d := range list {
		next, code := plainDo(x, d)
		if code == 0 {
			x = next
		}
		codes = append(codes, code)
	}
	return copyBox(x), codes
}

func wantDo(t *testing.T, x impl.Box, d impl.Deed, want impl.Box, code int) {
	t.Helper()
	if got, how := impl.Do(x, d); how != code || !sameBox(got, want) {
		t.Errorf("Do(%+v, %+v): %+v %d, want %+v %d", x, d, got, how, want, code)
	}
}

// wantDone asks that it turns just that.
func wantDone(t *testing.T, x impl.Box, d impl.Deed, turn func(*impl.Box)) {
	t.Helper()
	wantDo(t, x, d, boxBent(x, turn), impl.CdDone)
}

// wantRefused asks that it stays as it was.
func wantRefused(t *testing.T, x impl.Box, d impl.Deed, code int) {
	t.Helper()
	wantDo(t, x, d, x, code)
}

func wantBad(t *testing.T, x impl.Box, d impl.Deed) {
	t.Helper()
	wantDo(t, x, d, impl.Box{}, impl.CdBad)
}

func wantDoAsPlain(t *testing.T, x impl.Box, d impl.Deed) {
	t.Helper()
	want, code := plainDo(x, d)
	wantDo(t, x, d, want, code)
}

func wantDoAll(t *testing.T, x impl.Box, list []impl.Deed, want impl.Box, codes []int) {
	t.Helper()
	if got, how := impl.DoAll(x, list); !slices.Equal(how, codes) || !sameBox(got, want) {
		t.Errorf("DoAll(%+v, %+v): %+v %v, want %+v %v", x, list, got, how, want, codes)
	}
}

// behindAll is the box behind these, each of which is done.
func behindAll(t *testing.T, x impl.Box, list ...impl.Deed) impl.Box {
	t.Helper()
	for at, d := range list {
		next, code := impl.Do(x, d)
		if code != impl.CdDone {
			t.Fatalf("%d, %+v of %+v: %d", at, d, x, code)
		}
		x = next
	}
	return x
}

// turnedBox is the same with the two minders in each other's place.
func turnedBox(x impl.Box) impl.Box {
	x = copyBox(x)
	x.Two[0], x.Two[1] = x.Two[1], x.Two[0]
	x.Reg.Owner = 1 - x.Reg.Owner
	for at := range x.Net {
		x.Net[at].From = 1 - x.Net[at].From
	}
	return x
}

// lowBox is as plainBox, but what came is of the ports that it has, and nothing is on its way.
func lowBox() impl.Box {
	log := upLog(3)[:6]
	return boxBent(plainBox(), func(x *impl.Box) {
		x.Two[0].Log, x.Two[1].Log, x.Line, x.Net = slices.Clone(log), slices.Clone(log), slices.Clone(log[:4]), nil
	})
}

// eachWay looks at x, and at the same where the other one minds; s minds.
func eachWay(x impl.Box, look func(x impl.Box, s int)) {
	look(copyBox(x), x.Reg.Owner)
	look(turnedBox(x), 1-x.Reg.Owner)
}

func TestDeedNumbers(t *testing.T) {
	for at, kind := range allKinds {
		if kind != at+1 {
			t.Errorf("kind %d is %d", at+1, kind)
		}
	}
	if codes := []int{impl.CdDone, impl.CdBad, impl.CdNone, impl.CdIdle, impl.CdFull}; !slices.Equal(codes, []int{0, 1, 2, 3, 4}) || impl.MaxDeeds != 300 {
		t.Error("numbers", codes, impl.MaxDeeds)
	}
}

func TestDoOfNoBox(t *testing.T) {
	for at, x := range bentBoxes() {
		for _, kind := range allKinds {
			wantBad(t, x, impl.Deed{Kind: kind, A: at % 3, In: tickIn()})
		}
		// what is no wire, and nobody, of what is no box is bad, too
		wantBad(t, x, deedOf(impl.DdGive, -1))
		wantBad(t, x, deedOf(impl.DdFall, 2))
		wantBad(t, x, impl.Deed{})
	}
}

func TestDoOfNoKind(t *testing.T) {
	for at, x := range goodBoxes() {
		for _, kind := range slices.Concat(edgeNumbers, wildNumbers, []int{13, 14, 99, 256 + impl.DdFall, 1<<32 + impl.DdSay}) {
			if kind < 1 || kind > 12 {
				wantBad(t, x, impl.Deed{Kind: kind, A: at % 2, In: tickIn()})
				wantBad(t, x, impl.Deed{Kind: kind, A: -1})
			}
		}
	}
}

func TestDoOfNobody(t *testing.T) {
	for _, x := range []impl.Box{newBox(3, 2), plainBox(), lowBox(), fullBox(), fallenBox(), turnedBox(plainBox())} {
		for _, kind := range minderKinds {
			for _, a := range slices.Concat(edgeNumbers, wildNumbers) {
				if a != 0 && a != 1 {
					wantRefused(t, x, deedOf(kind, a), impl.CdNone)
				} else if _, code := impl.Do(x, deedOf(kind, a)); code == impl.CdNone {
					t.Errorf("kind %d of minder %d: nobody", kind, a)
				}
			}
		}
	}
}

// Where a deed needs no number, none is asked for.
func TestDoAsksForNoNumberMore(t *testing.T) {
	x := boxBent(lowBox(), func(x *impl.Box) { x.Reg.Pair = 0 })
	for _, a := range slices.Concat(edgeNumbers, wildNumbers) {
		wantDone(t, x, impl.Deed{Kind: impl.DdIn, A: a, In: tickIn()}, func(x *impl.Box) { x.Two[0].Log = append(x.Two[0].Log, tickIn()) })
		got, code := impl.Do(x, impl.Deed{Kind: impl.DdSay, A: a, In: impl.In{Kind: 77}})
		if code != impl.CdDone || got.Two[0].Said != 5 {
			t.Errorf("DdSay with %d: %+v %d", a, got, code)
		}
	}
	// what comes in is asked of DdIn alone
	for _, in := range bentIns() {
		wantDone(t, x, impl.Deed{Kind: impl.DdFall, A: 1, In: in}, func(x *impl.Box) { x.Two[1] = impl.Minder{Life: 7} })
		wantDone(t, plainBox(), impl.Deed{Kind: impl.DdLose, A: 4, In: in}, func(x *impl.Box) { x.Net = x.Net[:4] })
	}
}

func TestDoOfNoWire(t *testing.T) {
	for count := range 21 {
		x := boxBent(plainBox(), func(x *impl.Box) { x.Net = wiresOf(count) })
		for _, kind := range wireKinds {
			for _, a := range slices.Concat(edgeNumbers, wildNumbers, []int{count - 1, count, count + 1, count + 1<<32}) {
				if a < 0 || a >= count {
					wantRefused(t, x, deedOf(kind, a), impl.CdNone)
				} else if _, code := impl.Do(x, deedOf(kind, a)); code == impl.CdNone || code != impl.CdDone && kind != impl.DdTwice {
					t.Errorf("kind %d of wire %d of %d: %d", kind, a, count, code)
				}
			}
		}
	}
}

// What comes in is written down by who minds, and by nobody else.
func TestDoIn(t *testing.T) {
	for _, in := range goodIns() {
		for ports := 1; ports <= 4; ports++ {
			eachWay(newBox(3, ports), func(x impl.Box, s int) {
				if in.Port < ports {
					wantDone(t, x, inDeed(in), func(x *impl.Box) { x.Two[s].Log = []impl.In{in} })
				} else {
					wantRefused(t, x, inDeed(in), impl.CdIdle)
				}
			})
		}
	}
	for _, in := range bentIns() {
		wantRefused(t, newBox(3, 4), inDeed(in), impl.CdIdle)
		wantRefused(t, plainBox(), inDeed(in), impl.CdIdle)
	}
	eachWay(plainBox(), func(x impl.Box, s int) {
		wantDone(t, x, inDeed(linkIn(2, false)), func(x *impl.Box) { x.Two[s].Log = append(x.Two[s].Log, linkIn(2, false)) })
		wantRefused(t, x, inDeed(linkIn(3, false)), impl.CdIdle)
		wantRefused(t, x, inDeed(claimIn(3, vecOf(1, 2, 3, 1), 2)), impl.CdIdle)
	})
}

func TestDoInWhereNobodyMinds(t *testing.T) {
	for _, x := range nobodyMinds() {
		wantRefused(t, x, inDeed(tickIn()), impl.CdIdle)
		wantRefused(t, x, inDeed(linkIn(0, true)), impl.CdIdle)
		wantRefused(t, x, inDeed(impl.In{}), impl.CdIdle)
	}
}

// nobodyMinds are boxes whose owner does not run, or as another number.
func nobodyMinds() []impl.Box {
	list := []impl.Box{fallenBox(), boxBent(fullBox(), func(x *impl.Box) { x.Two[1].Epoch = 99999 })}
	for _, x := range []impl.Box{newBox(3, 2), lowBox(), plainBox()} {
		list = append(list, boxBent(x, func(x *impl.Box) { x.Reg.Epoch++ }), boxBent(x, func(x *impl.Box) { x.Reg.Owner = 1 }), boxBent(x, func(x *impl.Box) { x.Two[0].Epoch = 0 }),
			boxBent(x, func(x *impl.Box) { x.Two[0] = impl.Minder{Life: 5} }), boxBent(x, func(x *impl.Box) { x.Two[0] = impl.Minder{Life: 5}; x.Two[1].Epoch = x.Reg.Epoch }))
	}
	for _, x := range slices.Clone(list) {
		list = append(list, turnedBox(x))
	}
	return list
}

func TestDoInAtItsLimit(t *testing.T) {
	eachWay(newBox(3, 2), func(x impl.Box, s int) {
		for count := range 61 {
			x.Two[s].Log = slices.Repeat([]impl.In{tickIn()}, count)
			if count < 60 {
				wantDone(t, x, inDeed(linkIn(1, true)), func(x *impl.Box) { x.Two[s].Log = append(x.Two[s].Log, linkIn(1, true)) })
			} else {
				wantRefused(t, x, inDeed(linkIn(1, true)), impl.CdFull)
				// what can't come in is told first
				wantRefused(t, x, inDeed(linkIn(2, true)), impl.CdIdle)
				wantRefused(t, x, inDeed(impl.In{}), impl.CdIdle)
			}
		}
	})
}

// It goes by what the other one is known to have, in the life that it has.
func TestDoShip(t *testing.T) {
	eachWay(lowBox(), func(x impl.Box, s int) {
		log := x.Two[s].Log
		for acked := range 7 {
			for _, ackLife := range []int{0, 1, 6, 7, 8, 100000} {
				for _, life := range []int{0, 6, 7, 8, 100000} {
					x := boxBent(x, func(x *impl.Box) {
						x.Two[s].Acked, x.Two[s].AckLife, x.Two[1-s].Life = acked, ackLife, life
					})
					n := 0
					if ackLife == life {
						n = acked
					}
					if n == 6 {
						wantRefused(t, x, deedOf(impl.DdShip, s), impl.CdIdle)
						continue
					}
					wantDone(t, x, deedOf(impl.DdShip, s), func(x *impl.Box) { x.Net = []impl.Wire{{From: s, Life: life, N: n, In: log[n]}} })
					// the other one need not run, nor be at its place
					x.Two[1-s] = impl.Minder{Life: life}
					wantDone(t, x, deedOf(impl.DdShip, s), func(x *impl.Box) { x.Net = []impl.Wire{{From: s, Life: life, N: n, In: log[n]}} })
				}
			}
		}
		// of none there is nothing to ship
		x.Two[s] = impl.Minder{Up: true, Life: 5, Epoch: 3}
		wantRefused(t, x, deedOf(impl.DdShip, s), impl.CdIdle)
	})
}

func TestDoShipOfWhoDoesNotMind(t *testing.T) {
	eachWay(lowBox(), func(x impl.Box, s int) {
		wantRefused(t, x, deedOf(impl.DdShip, 1-s), impl.CdIdle)
		wantRefused(t, boxBent(x, func(x *impl.Box) { x.Two[1-s].Epoch = 2 }), deedOf(impl.DdShip, 1-s), impl.CdIdle)
		wantRefused(t, boxBent(x, func(x *impl.Box) { x.Two[1-s].Epoch = 3 }), deedOf(impl.DdShip, 1-s), impl.CdIdle)
	})
	for _, x := range nobodyMinds() {
		for s := range 2 {
			wantRefused(t, x, deedOf(impl.DdShip, s), impl.CdIdle)
		}
	}
}

func TestDoShipAtItsLimit(t *testing.T) {
	eachWay(lowBox(), func(x impl.Box, s int) {
		x.Two[s].Acked = 2
		for count := range 21 {
			x.Net = wiresOf(count)
			if count < 20 {
				wantDone(t, x, deedOf(impl.DdShip, s), func(x *impl.Box) { x.Net = append(x.Net, wireOf(s, 7, 2, x.Two[s].Log[2])) })
				// the same again: it is not known to have come
				again := behindAll(t, x, deedOf(impl.DdShip, s))
				if count < 19 {
					wantDone(t, again, deedOf(impl.DdShip, s), func(x *impl.Box) { x.Net = append(x.Net, x.Net[count]) })
				}
			} else {
				wantRefused(t, x, deedOf(impl.DdShip, s), impl.CdFull)
				// who has all, or does not mind, is told first
				wantRefused(t, boxBent(x, func(x *impl.Box) { x.Two[s].Acked = 6 }), deedOf(impl.DdShip, s), impl.CdIdle)
				wantRefused(t, x, deedOf(impl.DdShip, 1-s), impl.CdIdle)
			}
		}
	})
}

// withNet is x with these on their way, and some others behind them.
func withNet(x impl.Box, list ...impl.Wire) impl.Box {
	return boxBent(x, func(x *impl.Box) {
		x.Net = slices.Concat(list, []impl.Wire{ackWire(0, 1, 1), wireOf(1, 2, 2, tickIn())})
	})
}

// wantGiven asks that the first wire is gone, and of the rest for just what turn turns.
func wantGiven(t *testing.T, x impl.Box, w impl.Wire, turn func(*impl.Box)) {
	t.Helper()
	full := withNet(x, w)
	wantDone(t, full, deedOf(impl.DdGive, 0), func(x *impl.Box) {
		x.Net = x.Net[1:]
		turn(x)
	})
}

func nothing(*impl.Box) {}

func TestDoGive(t *testing.T) {
	eachWay(lowBox(), func(x impl.Box, s int) {
		in, to := linkIn(1, false), 1-s
		for n := range 9 {
			w := wireOf(s, 7, n, in)
			wantGiven(t, x, w, func(x *impl.Box) {
				// below, or above, how many it has: an Ack alone
				has := 6
				if n == 6 {
					x.Two[to].Log, has = append(x.Two[to].Log, in), 7
				}
				x.Net = append(x.Net, ackWire(to, 7, has))
			})
		}
		// of another life, there is no Ack, either
		for _, life := range []int{0, 1, 5, 6, 8, 100000} {
			for _, n := range []int{0, 5, 6, 7, 100000} {
				wantGiven(t, x, wireOf(s, life, n, in), nothing)
			}
		}
		// who minds, or did, has a log of its own; it tells how many, all the same
		for _, epoch := range []int{1, 2, 3, 4, 100000} {
			y := boxBent(x, func(x *impl.Box) { x.Two[to].Epoch = epoch })
			for _, n := range []int{0, 5, 6, 7} {
				wantGiven(t, y, wireOf(s, 7, n, in), func(x *impl.Box) { x.Net = append(x.Net, ackWire(to, 7, 6)) })
				wantGiven(t, y, wireOf(s, 8, n, in), nothing)
			}
		}
		// to who minds
		wantGiven(t, x, wireOf(to, 5, 6, in), func(x *impl.Box) { x.Net = append(x.Net, ackWire(s, 5, 6)) })
	})
}

// What it takes it need not have from who minds, and it is not asked for the port.
func TestDoGiveAsksNoMore(t *testing.T) {
	for _, x := range nobodyMinds() {
		for to := range 2 {
			m := impl.Minder{Up: true, Life: 9, Log: logOf(3, 3), Said: 2, Acked: 1, AckLife: 4}
			x := boxBent(x, func(x *impl.Box) { x.Two[to] = m })
			wantGiven(t, x, wireOf(1-to, 9, 3, linkIn(3, true)), func(x *impl.Box) {
				x.Two[to].Log = append(x.Two[to].Log, linkIn(3, true))
				x.Net = append(x.Net, ackWire(to, 9, 4))
			})
		}
	}
	// a life that is none is one as others are
	x := boxBent(lowBox(), func(x *impl.Box) { x.Two[1] = impl.Minder{Up: true} })
	wantGiven(t, x, wireOf(0, 0, 0, tickIn()), func(x *impl.Box) {
		x.Two[1].Log = []impl.In{tickIn()}
		x.Net = append(x.Net, ackWire(1, 0, 1))
	})
}

func TestDoGiveToWhoIsNotUp(t *testing.T) {
	for _, life := range []int{0, 7, 100000} {
		for s := range 2 {
			x := boxBent(lowBox(), func(x *impl.Box) { x.Two[s] = impl.Minder{Life: life} })
			wantGiven(t, x, wireOf(1-s, life, 0, tickIn()), nothing)
			wantGiven(t, x, ackWire(1-s, life, 3), nothing)
			wantGiven(t, x, ackWire(1-s, 100000, 60), nothing)
		}
	}
}

// Of a log that is full nothing is taken, and the Ack tells that.
func TestDoGiveWhereTheLogIsFull(t *testing.T) {
	for count := 57; count <= 60; count++ {
		x := boxBent(lowBox(), func(x *impl.Box) { x.Two[1].Log = logOf(count, 4) })
		wantGiven(t, x, wireOf(0, 7, count, tickIn()), func(x *impl.Box) {
			if count < 60 {
				x.Two[1].Log = append(x.Two[1].Log, tickIn())
			}
			x.Net = append(x.Net, ackWire(1, 7, min(count+1, 60)))
		})
	}
}

// The wire leaves room for the Ack that it is answered by, even where there was none.
func TestDoGiveWhereTheNetIsFull(t *testing.T) {
	for count := 1; count <= 20; count++ {
		for at := range count {
			x := boxBent(lowBox(), func(x *impl.Box) {
				x.Net = wiresOf(count)
				x.Net[at] = wireOf(0, 7, 6, tickIn())
			})
			wantDone(t, x, deedOf(impl.DdGive, at), func(x *impl.Box) {
				x.Two[1].Log = append(x.Two[1].Log, tickIn())
				x.Net = append(slices.Delete(x.Net, at, at+1), ackWire(1, 7, 7))
			})
		}
	}
}

func TestDoGiveOfAnAck(t *testing.T) {
	eachWay(lowBox(), func(x impl.Box, s int) {
		for had := range 7 {
			x := boxBent(x, func(x *impl.Box) { x.Two[s].Acked = had })
			for _, life := range []int{0, 1, 6, 7, 8, 9, 100000} {
				for _, n := range []int{0, 1, 2, 3, 4, 5, 6, 7, 60, 100000} {
					wantGiven(t, x, ackWire(1-s, life, n), func(x *impl.Box) {
						if life > 7 || life == 7 && n > had {
							x.Two[s].AckLife, x.Two[s].Acked = life, min(n, 6)
						}
					})
				}
			}
		}
		// of a later life fewer count, too, down to none
		wantGiven(t, x, ackWire(1-s, 8, 0), func(x *impl.Box) { x.Two[s].AckLife, x.Two[s].Acked = 8, 0 })
		wantGiven(t, x, ackWire(1-s, 7, 0), nothing)
		// what the other one is now is not asked
		y := boxBent(x, func(x *impl.Box) { x.Two[1-s] = impl.Minder{Life: 30} })
		wantGiven(t, y, ackWire(1-s, 9, 2), func(x *impl.Box) { x.Two[s].AckLife, x.Two[s].Acked = 9, 2 })
		// who does not mind hears nothing
		wantGiven(t, x, ackWire(s, 100000, 6), nothing)
		wantGiven(t, boxBent(x, func(x *impl.Box) { x.Two[1-s].Epoch = 2 }), ackWire(s, 100000, 6), nothing)
		wantGiven(t, boxBent(x, func(x *impl.Box) { x.Two[1-s].Epoch = 3 }), ackWire(s, 100000, 6), nothing)
	})
	for _, x := range nobodyMinds() {
		wantGiven(t, x, ackWire(0, 100000, 60), nothing)
		wantGiven(t, x, ackWire(1, 100000, 60), nothing)
	}
}

// Each wire can be given, not only the first one; the others stay in their order.
func TestDoGiveOfEachWire(t *testing.T) {
	for count := range 21 {
		for seed := range 4 {
			x := boxBent(lowBox(), func(x *impl.Box) {
				x.Net = wiresOf(count)
				for at := range x.Net {
					x.Net[at].Life, x.Net[at].N = []int{5, 7, 8, 7}[(at+seed)%4], (at+seed)%9
				}
			})
			for a := -1; a <= count; a++ {
				wantDoAsPlain(t, x, deedOf(impl.DdGive, a))
			}
		}
	}
}

func TestDoLose(t *testing.T) {
	for count := 1; count <= 20; count++ {
		for _, x := range []impl.Box{lowBox(), fullBox(), fallenBox()} {
			x.Net = wiresOf(count)
			for a := range count {
				wantDone(t, x, deedOf(impl.DdLose, a), func(x *impl.Box) { x.Net = slices.Delete(x.Net, a, a+1) })
			}
		}
	}
	wantRefused(t, newBox(3, 2), deedOf(impl.DdLose, 0), impl.CdNone)
}

func TestDoTwice(t *testing.T) {
	for count := 1; count <= 20; count++ {
		for _, x := range []impl.Box{lowBox(), fullBox(), fallenBox()} {
			x.Net = wiresOf(count)
			for a := range count {
				if count < 20 {
					wantDone(t, x, deedOf(impl.DdTwice, a), func(x *impl.Box) { x.Net = append(x.Net, x.Net[a]) })
				} else {
					wantRefused(t, x, deedOf(impl.DdTwice, a), impl.CdFull)
				}
			}
			// one that is none is told first
			wantRefused(t, x, deedOf(impl.DdTwice, count), impl.CdNone)
			wantRefused(t, x, deedOf(impl.DdTwice, -1), impl.CdNone)
		}
	}
}

func TestDoSay(t *testing.T) {
	eachWay(lowBox(), func(x impl.Box, s int) {
		log := x.Two[s].Log
		for said := range 6 {
			for line := range 9 {
				x := boxBent(x, func(x *impl.Box) {
					x.Two[s].Said, x.Line = said, slices.Concat(log, log)[:line]
				})
				says := impl.Saying(5, 3, log, said)
				wantDo(t, x, sayDeed(), boxBent(impl.Accept(x, s, says), func(x *impl.Box) {
					x.Two[s].Said = said + 1
					if line < said+1 {
						x.Line = append(x.Line, log[said])
					}
				}), impl.CdDone)
			}
		}
		// all is said
		wantRefused(t, boxBent(x, func(x *impl.Box) { x.Two[s].Said = 6 }), sayDeed(), impl.CdIdle)
		wantRefused(t, boxBent(x, func(x *impl.Box) { x.Two[s].Said, x.Reg.Pair = 6, 0 }), sayDeed(), impl.CdIdle)
	})
	for _, x := range nobodyMinds() {
		wantRefused(t, x, sayDeed(), impl.CdIdle)
		wantRefused(t, boxBent(x, func(x *impl.Box) { x.Reg.Pair = 0 }), sayDeed(), impl.CdIdle)
	}
}

// What is said of waits until the other one has it, in the life that is paired with.
func TestDoSayWaitsForThePair(t *testing.T) {
	eachWay(lowBox(), func(x impl.Box, s int) {
		for _, pair := range []int{0, 1, 6, 7, 8, 100000} {
			for _, ackLife := range []int{0, 1, 6, 7, 8, 100000} {
				for acked := range 7 {
					x := boxBent(x, func(x *impl.Box) { x.Reg.Pair, x.Two[s].AckLife, x.Two[s].Acked = pair, ackLife, acked })
					if pair != 0 && (ackLife != pair || acked <= 4) {
						wantRefused(t, x, sayDeed(), impl.CdIdle)
					} else if got, code := impl.Do(x, sayDeed()); code != impl.CdDone || got.Two[s].Said != 5 || impl.Released(got) != 5 {
						t.Errorf("%+v: %+v %d", x, got, code)
					}
				}
			}
		}
	})
}

// What is said turns gates, and stands behind what was said, up to its limits.
func TestDoSayTurnsGates(t *testing.T) {
	x := boxBent(newBox(3, 2), func(x *impl.Box) {
		x.Two[0].Log = []impl.In{linkIn(1, true), tickIn(), tickIn(), tickIn(), tickIn(), linkIn(1, false)}
		x.Gates, x.Said = []bool{true, false}, outsFrom(0, 40)
	})
	claim := claimOut(1, vecOf(3, 0, 3, 1), 0)
	for at, said := range [][]impl.Out{{}, {claim}, {claim}, {claim}, {gateOut(1, true), claim}, {gateOut(1, false)}} {
		want := boxBent(x, func(x *impl.Box) {
			x.Gates[1] = at == 4
			x.Said = append(x.Said, said...)[len(said):]
			x.Line, x.Two[0].Said = append(x.Line, x.Two[0].Log[at]), at+1
		})
		wantDo(t, x, sayDeed(), want, impl.CdDone)
		x = want
	}
	wantRefused(t, x, sayDeed(), impl.CdIdle)
}

// The last one of a log that is full can be said, too.
func TestDoSayAtItsLimit(t *testing.T) {
	x := boxBent(fullBox(), func(x *impl.Box) { x.Two[1].Said, x.Line = 59, x.Line[:59] })
	got, code := impl.Do(x, sayDeed())
	if code != impl.CdDone || got.Two[1].Said != 60 || !slices.Equal(got.Line, x.Two[1].Log) || !impl.BoxOk(got) {
		t.Errorf("the last one: %+v %d", got, code)
	}
	wantRefused(t, got, sayDeed(), impl.CdIdle)
	wantRefused(t, fullBox(), sayDeed(), impl.CdIdle)
}

func TestDoFall(t *testing.T) {
	boxes := []impl.Box{lowBox(), fullBox(), fallenBox(), newBox(3, 2)}
	for _, m := range goodMinders() {
		for s := range 2 {
			for _, x := range boxes {
				x := boxBent(x, func(x *impl.Box) { x.Two[s] = m })
				if m.Up {
					wantDone(t, x, deedOf(impl.DdFall, s), func(x *impl.Box) { x.Two[s] = impl.Minder{Life: m.Life} })
				} else {
					wantRefused(t, x, deedOf(impl.DdFall, s), impl.CdIdle)
				}
			}
		}
	}
	wantRefused(t, fallenBox(), deedOf(impl.DdFall, 0), impl.CdIdle)
	wantRefused(t, fallenBox(), deedOf(impl.DdFall, 1), impl.CdIdle)
}

func TestDoRise(t *testing.T) {
	for _, own := range []int{0, 1, 2, 7, 99998, 99999, 100000} {
		for _, other := range []int{0, 1, 2, 7, 99998, 99999, 100000} {
			for s := range 2 {
				for _, up := range []bool{false, true} {
					x := boxBent(lowBox(), func(x *impl.Box) { x.Two[s], x.Two[1-s] = impl.Minder{Life: own}, impl.Minder{Up: up, Life: other} })
					if life := max(own, other) + 1; life <= 100000 {
						wantDone(t, x, deedOf(impl.DdRise, s), func(x *impl.Box) { x.Two[s] = impl.Minder{Up: true, Life: life} })
					} else {
						wantRefused(t, x, deedOf(impl.DdRise, s), impl.CdFull)
					}
					x.Two[s].Up = true
					wantRefused(t, x, deedOf(impl.DdRise, s), impl.CdIdle)
				}
			}
		}
	}
	for _, x := range []impl.Box{newBox(3, 2), lowBox(), fullBox()} {
		wantRefused(t, x, deedOf(impl.DdRise, 0), impl.CdIdle)
		wantRefused(t, x, deedOf(impl.DdRise, 1), impl.CdIdle)
	}
}

func TestDoYield(t *testing.T) {
	eachWay(lowBox(), func(x impl.Box, s int) {
		// who minds, and who never did
		wantRefused(t, x, deedOf(impl.DdYield, s), impl.CdIdle)
		wantRefused(t, x, deedOf(impl.DdYield, 1-s), impl.CdIdle)
		wantRefused(t, boxBent(x, func(x *impl.Box) { x.Two[s].Epoch = 0 }), deedOf(impl.DdYield, s), impl.CdIdle)
		// who does not run
		wantRefused(t, boxBent(x, func(x *impl.Box) { x.Two[1-s] = impl.Minder{Life: 7} }), deedOf(impl.DdYield, 1-s), impl.CdIdle)
		wantRefused(t, boxBent(x, func(x *impl.Box) { x.Two[s] = impl.Minder{Life: 5} }), deedOf(impl.DdYield, s), impl.CdIdle)
		// who was taken from, also by its own place: the register goes by another number
		for _, epoch := range []int{1, 2, 3, 4, 100000} {
			y := boxBent(x, func(x *impl.Box) { x.Two[1-s].Epoch = epoch })
			wantDone(t, y, deedOf(impl.DdYield, 1-s), func(x *impl.Box) { x.Two[1-s] = impl.Minder{Up: true, Life: 8} })
			y = boxBent(x, func(x *impl.Box) { x.Two[s].Epoch = epoch })
			if epoch == 3 {
				wantRefused(t, y, deedOf(impl.DdYield, s), impl.CdIdle)
			} else {
				wantDone(t, y, deedOf(impl.DdYield, s), func(x *impl.Box) { x.Two[s] = impl.Minder{Up: true, Life: 8} })
			}
		}
		// its life is one more than the greater one
		for _, own := range []int{0, 4, 7, 99999, 100000} {
			for _, other := range []int{0, 5, 99999, 100000} {
				y := boxBent(x, func(x *impl.Box) { x.Two[1-s].Epoch, x.Two[1-s].Life, x.Two[s].Life = 2, own, other })
				if life := max(own, other) + 1; life <= 100000 {
					wantDone(t, y, deedOf(impl.DdYield, 1-s), func(x *impl.Box) { x.Two[1-s] = impl.Minder{Up: true, Life: life} })
				} else {
					wantRefused(t, y, deedOf(impl.DdYield, 1-s), impl.CdFull)
				}
			}
		}
	})
}

func TestDoTake(t *testing.T) {
	eachWay(lowBox(), func(x impl.Box, s int) {
		to := 1 - s
		x.Two[to].Said, x.Two[to].Acked, x.Two[to].AckLife = 2, 3, 4
		taken := func(said int) func(*impl.Box) {
			return func(x *impl.Box) {
				x.Reg = regOf(4, to, 0)
				x.Two[to] = impl.Minder{Up: true, Life: 7, Epoch: 4, Log: x.Two[to].Log, Said: said}
			}
		}
		wantDone(t, x, deedOf(impl.DdTake, to), taken(4))
		// it begins behind all that was said, as far as it has that
		for line := range 61 {
			y := boxBent(x, func(x *impl.Box) { x.Line = logOf(line, 1) })
			if line <= 6 {
				wantDone(t, y, deedOf(impl.DdTake, to), taken(line))
			} else {
				wantRefused(t, y, deedOf(impl.DdTake, to), impl.CdFull)
			}
		}
		// whoever minds still, or fell, or minded itself
		wantDone(t, boxBent(x, func(x *impl.Box) { x.Two[s] = impl.Minder{Life: 5} }), deedOf(impl.DdTake, to), taken(4))
		wantDone(t, boxBent(x, func(x *impl.Box) { x.Two[to].Epoch = 2 }), deedOf(impl.DdTake, to), taken(4))
		// who may not
		wantRefused(t, x, deedOf(impl.DdTake, s), impl.CdIdle)
		wantRefused(t, boxBent(x, func(x *impl.Box) { x.Reg.Pair = 5 }), deedOf(impl.DdTake, s), impl.CdIdle)
		for _, pair := range []int{0, 1, 5, 6, 8, 100000} {
			wantRefused(t, boxBent(x, func(x *impl.Box) { x.Reg.Pair = pair }), deedOf(impl.DdTake, to), impl.CdIdle)
		}
		wantRefused(t, boxBent(x, func(x *impl.Box) { x.Two[to] = impl.Minder{Life: 7} }), deedOf(impl.DdTake, to), impl.CdIdle)
		wantRefused(t, boxBent(x, func(x *impl.Box) { x.Two[to].Life, x.Reg.Pair = 0, 0 }), deedOf(impl.DdTake, to), impl.CdIdle)
		// behind the last number there is none; that it may not is told ahead of what it has not
		wantRefused(t, boxBent(x, func(x *impl.Box) { x.Reg.Epoch = 100000 }), deedOf(impl.DdTake, to), impl.CdIdle)
		wantRefused(t, boxBent(x, func(x *impl.Box) { x.Reg.Pair, x.Line = 8, logOf(9, 1) }), deedOf(impl.DdTake, to), impl.CdIdle)
	})
	x := newBox(3, 2)
	wantRefused(t, x, deedOf(impl.DdTake, 0), impl.CdIdle)
	wantRefused(t, x, deedOf(impl.DdTake, 1), impl.CdIdle)
}

func TestDoPairAndAlone(t *testing.T) {
	eachWay(lowBox(), func(x impl.Box, s int) {
		for _, was := range []int{0, 5, 7, 9, 100000} {
			for _, ackLife := range []int{0, 1, 7, 8, 100000} {
				for acked := range 7 {
					x := boxBent(x, func(x *impl.Box) { x.Reg.Pair, x.Two[s].AckLife, x.Two[s].Acked = was, ackLife, acked })
					if acked == 6 || ackLife == 0 {
						wantDone(t, x, deedOf(impl.DdPair, s), func(x *impl.Box) { x.Reg.Pair = ackLife })
					} else {
						wantRefused(t, x, deedOf(impl.DdPair, s), impl.CdIdle)
					}
					wantDone(t, x, deedOf(impl.DdAlone, s), func(x *impl.Box) { x.Reg.Pair = 0 })
					wantRefused(t, x, deedOf(impl.DdPair, 1-s), impl.CdIdle)
					wantRefused(t, x, deedOf(impl.DdAlone, 1-s), impl.CdIdle)
				}
			}
		}
		// who has the number of who minds, at the other place
		both := boxBent(x, func(x *impl.Box) { x.Two[1-s].Epoch = 3 })
		wantRefused(t, both, deedOf(impl.DdPair, 1-s), impl.CdIdle)
		wantRefused(t, both, deedOf(impl.DdAlone, 1-s), impl.CdIdle)
	})
	for _, x := range nobodyMinds() {
		for s := range 2 {
			wantRefused(t, x, deedOf(impl.DdPair, s), impl.CdIdle)
			wantRefused(t, x, deedOf(impl.DdAlone, s), impl.CdIdle)
		}
	}
}

// What would be beyond a limit is refused, and turns nothing.
func TestDoWhereItWouldBeNoBox(t *testing.T) {
	x := boxBent(fullBox(), func(x *impl.Box) { x.Two[0] = impl.Minder{Life: 100000} })
	wantRefused(t, x, deedOf(impl.DdRise, 0), impl.CdFull)
	wantRefused(t, fullBox(), inDeed(tickIn()), impl.CdFull)
	wantRefused(t, fullBox(), deedOf(impl.DdTwice, 0), impl.CdFull)
	wantRefused(t, boxBent(fullBox(), func(x *impl.Box) { x.Two[1].Acked = 59 }), deedOf(impl.DdShip, 1), impl.CdFull)
	wantRefused(t, boxBent(fullBox(), func(x *impl.Box) { x.Two[0].Epoch = 7 }), deedOf(impl.DdYield, 0), impl.CdFull)
	wantRefused(t, boxBent(fullBox(), func(x *impl.Box) {
		x.Reg.Epoch, x.Two[0] = 99999, impl.Minder{Up: true, Life: 100000, Log: logOf(59, 2)}
	}), deedOf(impl.DdTake, 0), impl.CdFull)
	wantDone(t, boxBent(fullBox(), func(x *impl.Box) { x.Reg.Epoch = 99999 }), deedOf(impl.DdTake, 0), func(x *impl.Box) {
		x.Reg, x.Two[0] = regOf(100000, 0, 0), impl.Minder{Up: true, Life: 100000, Epoch: 100000, Log: x.Two[0].Log, Said: 60}
	})
}

func TestDoAsTheChapterSays(t *testing.T) {
	boxes := slices.Concat(goodBoxes(), nobodyMinds(), []impl.Box{lowBox(), turnedBox(lowBox()), turnedBox(fullBox())})
	codes := map[int]int{}
	for _, x := range boxes {
		for _, d := range deedsFor(x) {
			wantDoAsPlain(t, x, d)
			_, code := impl.Do(x, d)
			codes[code]++
		}
		if t.Failed() {
			t.FailNow()
		}
	}
	for code := range 5 {
		if codes[code] < 100 {
			t.Errorf("code %d only %d times", code, codes[code])
		}
	}
	for _, x := range bentBoxes()[:60] {
		for _, d := range deedsFor(x) {
			wantDoAsPlain(t, x, d)
		}
	}
}

// Few numbers, each with each.
func TestDoOfSmallBoxes(t *testing.T) {
	for epoch := 1; epoch < 3; epoch++ {
		for pair := range 3 {
			eachSmallCouple(func(m impl.Minder, other impl.Minder) {
				x := impl.Box{Id: 5, Ports: 4, Reg: regOf(epoch, 1, pair), Two: []impl.Minder{m, other}, Gates: make([]bool, 4), Line: logOf(1, 1), Net: []impl.Wire{wireOf(1, 2, 1, tickIn()), wireOf(0, 1, 0, tickIn()), ackWire(1, 2, 1), ackWire(0, 1, 2)}}
				for _, y := range []impl.Box{x, boxBent(x, func(x *impl.Box) { x.Reg.Owner = 0 })} {
					for _, d := range deedsFor(y) {
						wantDoAsPlain(t, y, d)
					}
				}
			})
			if t.Failed() {
				t.FailNow()
			}
		}
	}
}

// eachSmallCouple goes through minders of small numbers, each beside one that fell, one that follows and one that minds.
func eachSmallCouple(look func(m impl.Minder, other impl.Minder)) {
	others := []impl.Minder{{Life: 2}, {Up: true, Life: 2, Log: logOf(1, 1)}, {Up: true, Life: 1, Epoch: 1, Log: logOf(2, 1), Said: 1, Acked: 1, AckLife: 2}}
	eachSmallMinder(func(m impl.Minder) {
		if !impl.MinderOk(m) {
			return
		}
		for _, other := range others {
			look(m, copyMinder(other))
		}
	})
}

func TestDoAllOfNone(t *testing.T) {
	for _, x := range goodBoxes() {
		wantDoAll(t, x, nil, x, nil)
		wantDoAll(t, x, []impl.Deed{}, x, nil)
	}
}

func TestDoAllOfNoBox(t *testing.T) {
	for _, x := range bentBoxes() {
		wantDoAll(t, x, nil, x, nil)
		wantDoAll(t, x, []impl.Deed{inDeed(tickIn()), deedOf(impl.DdFall, 0), {}}, x, nil)
	}
}

// What is refused turns nothing, and what stands behind it is done all the same; what is no deed does not make it nothing.
func TestDoAllGoesOnPastWhatIsRefused(t *testing.T) {
	x := newBox(3, 2)
	list := []impl.Deed{{}, inDeed(linkIn(0, true)), deedOf(impl.DdTake, 1), {Kind: 99}, deedOf(impl.DdFall, 2), inDeed(linkIn(2, true)), deedOf(impl.DdGive, 0), sayDeed(), sayDeed(), {Kind: -1}}
	want := boxBent(x, func(x *impl.Box) {
		x.Two[0].Log, x.Two[0].Said, x.Line = []impl.In{linkIn(0, true)}, 1, []impl.In{linkIn(0, true)}
	})
	wantDoAll(t, x, list, want, []int{1, 0, 3, 1, 2, 3, 2, 0, 3, 1})
	wantDoAll(t, x, []impl.Deed{{}}, x, []int{1})
	wantDoAll(t, x, []impl.Deed{deedOf(impl.DdFall, 0), deedOf(impl.DdFall, 0), deedOf(impl.DdRise, 0), inDeed(tickIn())}, boxBent(x, func(x *impl.Box) { x.Two[0] = impl.Minder{Up: true, Life: 3} }), []int{0, 3, 0, 3})
}

func TestDoAllAtItsLimit(t *testing.T) {
	x := newBox(3, 2)
	for _, count := range []int{1, 2, 59, 60, 61, 299, 300, 301, 302, 600, 5000} {
		list := slices.Repeat([]impl.Deed{inDeed(tickIn())}, count)
		if count > 300 {
			wantDoAll(t, x, list, x, nil)
			continue
		}
		codes := make([]int, count)
		for at := 60; at < count; at++ {
			codes[at] = impl.CdFull
		}
		wantDoAll(t, x, list, boxBent(x, func(x *impl.Box) { x.Two[0].Log = slices.Repeat([]impl.In{tickIn()}, min(count, 60)) }), codes)
	}
	// so many count, also of those that are refused, or are none
	wantDoAll(t, x, make([]impl.Deed, 300), x, slices.Repeat([]int{impl.CdBad}, 300))
	wantDoAll(t, x, make([]impl.Deed, 301), x, nil)
	wantDoAll(t, impl.Box{}, make([]impl.Deed, 301), impl.Box{}, nil)
}

func TestDoAllAsTheChapterSays(t *testing.T) {
	for at, x := range slices.Concat(goodBoxes(), nobodyMinds(), []impl.Box{lowBox()}) {
		list := deedsFor(x)
		c := &chooser{uint64(at)}
		for n := range list {
			other := c.below(len(list))
			list[n], list[other] = list[other], list[n]
		}
		want, codes := plainDoAll(x, list)
		wantDoAll(t, x, list, want, codes)
	}
}

// levelled are the deeds by which the other one of s gets what it lacks, and s hears of it; as often as there are so many.
func levelled(s int, count int) []impl.Deed {
	return slices.Repeat([]impl.Deed{deedOf(impl.DdShip, s), deedOf(impl.DdGive, 0), deedOf(impl.DdGive, 0)}, count)
}

// oneBridge is what one bridge that never falls says of that, and its gates.
func oneBridge(x impl.Box, log []impl.In) ([]bool, []impl.Out) {
	b, said := plainTelling(x.Id, x.Ports, log)
	all := slices.Concat(said...)
	return plainGates(b), all[max(0, len(all)-40):]
}

// wantLikeOne asks that the gates, and what was said, are those of one bridge that never fell, of just that.
func wantLikeOne(t *testing.T, x impl.Box, line []impl.In) {
	t.Helper()
	gates, said := oneBridge(x, line)
	if !slices.Equal(x.Line, line) || !slices.Equal(x.Gates, gates) || !slices.Equal(x.Said, said) {
		t.Fatalf("not like one, of %+v: %+v", line, x)
	}
}

// A take-over from beginning to end: who has all takes, and goes on where the other one stopped.
func TestTakeOver(t *testing.T) {
	ticks := slices.Repeat([]impl.In{tickIn()}, 9)
	log := slices.Concat([]impl.In{linkIn(0, true)}, ticks[:4])
	x := newBox(3, 2)
	for _, in := range log[:4] {
		x = behindAll(t, x, inDeed(in))
	}
	x = behindAll(t, x, slices.Concat(levelled(0, 4), []impl.Deed{deedOf(impl.DdPair, 0), sayDeed(), sayDeed(), sayDeed()})...)
	wantLikeOne(t, x, log[:3])
	// one more comes, which the other one gets; that it has it is not heard any more
	x = behindAll(t, x, inDeed(log[4]), deedOf(impl.DdShip, 0), deedOf(impl.DdGive, 0), sayDeed())
	wantRefused(t, x, sayDeed(), impl.CdIdle)
	if x.Reg != regOf(1, 0, 2) || x.Gates[0] || len(x.Two[1].Log) != 5 {
		t.Fatalf("ahead of the fall: %+v", x)
	}
	// minder 0 falls, and nobody minds until minder 1 takes
	x = behindAll(t, x, deedOf(impl.DdFall, 0))
	wantRefused(t, x, inDeed(tickIn()), impl.CdIdle)
	wantRefused(t, x, sayDeed(), impl.CdIdle)
	x = behindAll(t, x, deedOf(impl.DdTake, 1))
	if x.Reg != regOf(2, 1, 0) || x.Two[1].Said != 4 || x.Two[1].Epoch != 2 {
		t.Fatalf("taken: %+v", x)
	}
	wantLikeOne(t, x, log[:4])
	// what was not said is said now, and opens the gate; what was said is not said twice
	x = behindAll(t, x, sayDeed())
	wantLikeOne(t, x, log)
	if !x.Gates[0] {
		t.Fatalf("the gate is shut: %+v", x)
	}
	// it minds on, alone, then with minder 0, which has to have all first
	x = behindAll(t, x, inDeed(linkIn(1, true)), sayDeed(), deedOf(impl.DdRise, 0), deedOf(impl.DdLose, 0))
	wantRefused(t, x, deedOf(impl.DdTake, 0), impl.CdIdle)
	x = behindAll(t, x, levelled(1, 5)...)
	wantRefused(t, x, deedOf(impl.DdPair, 1), impl.CdIdle)
	x = behindAll(t, x, slices.Concat(levelled(1, 1), []impl.Deed{deedOf(impl.DdPair, 1), inDeed(tickIn())})...)
	if x.Reg != regOf(2, 1, 3) || !slices.Equal(x.Two[0].Log, x.Line) {
		t.Fatalf("paired again: %+v", x)
	}
	wantRefused(t, x, sayDeed(), impl.CdIdle)
	// the tick that only minder 1 had was never said of: minder 0 goes on without it
	x = behindAll(t, x, deedOf(impl.DdTake, 0), inDeed(linkIn(0, false)), sayDeed())
	wantLikeOne(t, x, slices.Concat(log, []impl.In{linkIn(1, true), linkIn(0, false)}))
	if x.Gates[0] || x.Reg != regOf(3, 0, 0) {
		t.Fatalf("taken back: %+v", x)
	}
}

// Who was taken from runs on and finds nobody who listens, until it yields.
func TestWhoWasTakenFromIsNotHeard(t *testing.T) {
	eachWay(newBox(3, 2), func(x impl.Box, s int) {
		to := 1 - s
		x = behindAll(t, x, slices.Concat([]impl.Deed{inDeed(linkIn(0, true)), inDeed(tickIn())}, levelled(s, 2), []impl.Deed{deedOf(impl.DdPair, s), sayDeed()})...)
		// it has more than the other one, on its way twice
		x = behindAll(t, x, inDeed(tickIn()), deedOf(impl.DdShip, s), deedOf(impl.DdTwice, 0), deedOf(impl.DdTake, to))
		if !x.Two[s].Up || x.Two[s].Epoch != 1 || len(x.Two[s].Log) != 3 || x.Two[to].Said != 1 {
			t.Fatalf("taken: %+v", x)
		}
		for _, kind := range []int{impl.DdShip, impl.DdTake, impl.DdPair, impl.DdAlone, impl.DdRise} {
			wantRefused(t, x, deedOf(kind, s), impl.CdIdle)
		}
		wantNoAccept(t, x, s, []impl.Out{gateOut(0, true), gateOut(1, true)})
		// what comes, and what is said, is of who took
		next := behindAll(t, x, inDeed(linkIn(1, true)), sayDeed(), sayDeed())
		if !sameMinder(next.Two[s], x.Two[s]) {
			t.Fatalf("it was told: %+v", next)
		}
		wantLikeOne(t, next, []impl.In{linkIn(0, true), tickIn(), linkIn(1, true)})
		// what it had sent is late: who took has a log of its own, and tells that it has no more
		late := behindAll(t, x, deedOf(impl.DdGive, 0), deedOf(impl.DdGive, 0))
		if !sameMinder(late.Two[to], x.Two[to]) || !slices.Equal(late.Net, []impl.Wire{ackWire(to, 2, 2), ackWire(to, 2, 2)}) {
			t.Fatalf("late: %+v", late)
		}
		late = behindAll(t, late, deedOf(impl.DdGive, 0), deedOf(impl.DdGive, 0))
		if !sameMinder(late.Two[s], x.Two[s]) || len(late.Net) != 0 {
			t.Fatalf("late, and back: %+v", late)
		}
		// it yields, and is a new one, whom nothing late reaches
		x = behindAll(t, x, deedOf(impl.DdYield, s))
		if !sameMinder(x.Two[s], impl.Minder{Up: true, Life: 3}) {
			t.Fatalf("yielded: %+v", x)
		}
		wantRefused(t, x, deedOf(impl.DdYield, s), impl.CdIdle)
		wantRefused(t, x, deedOf(impl.DdYield, to), impl.CdIdle)
	})
}

// What is late is of another life: an Ack of one that was does not count as of one that is.
func TestWhatIsLate(t *testing.T) {
	x := behindAll(t, newBox(3, 2), slices.Concat([]impl.Deed{inDeed(linkIn(0, true)), inDeed(tickIn())}, levelled(0, 1))...)
	// the second one is on its way, and an Ack of the first life of minder 1
	x = behindAll(t, x, deedOf(impl.DdShip, 0), deedOf(impl.DdTwice, 0), deedOf(impl.DdGive, 0))
	if !slices.Equal(x.Net, []impl.Wire{wireOf(0, 2, 1, tickIn()), ackWire(1, 2, 2)}) {
		t.Fatalf("on its way: %+v", x.Net)
	}
	x = behindAll(t, x, deedOf(impl.DdFall, 1), deedOf(impl.DdRise, 1))
	// what is for the life that was is gone with it
	wantDone(t, x, deedOf(impl.DdGive, 0), func(x *impl.Box) { x.Net = x.Net[1:] })
	// the Ack of it is heard, and makes a pair of the life that was: it waits, and nobody takes
	late := behindAll(t, x, deedOf(impl.DdGive, 1), deedOf(impl.DdPair, 0))
	if late.Reg.Pair != 2 || late.Two[0].Acked != 2 || late.Two[0].AckLife != 2 {
		t.Fatalf("late: %+v", late)
	}
	wantRefused(t, late, deedOf(impl.DdTake, 1), impl.CdIdle)
	// it begins anew with the life that is
	late = behindAll(t, late, deedOf(impl.DdLose, 0), deedOf(impl.DdShip, 0))
	if !slices.Equal(late.Net, []impl.Wire{wireOf(0, 3, 0, linkIn(0, true))}) {
		t.Fatalf("shipped anew: %+v", late.Net)
	}
	late = behindAll(t, late, deedOf(impl.DdGive, 0), deedOf(impl.DdGive, 0))
	if late.Two[0].AckLife != 3 || late.Two[0].Acked != 1 {
		t.Fatalf("heard of the new life: %+v", late)
	}
	// from then on an Ack of the life that was counts for nothing
	late.Net = []impl.Wire{ackWire(1, 2, 2)}
	wantDone(t, late, deedOf(impl.DdGive, 0), func(x *impl.Box) { x.Net = nil })
}

// hasHeir tells whether the other one could take.
func hasHeir(x impl.Box) bool {
	m := x.Two[1-x.Reg.Owner]
	return m.Up && m.Life > 0 && m.Life == x.Reg.Pair && m.Epoch == 0
}

// nextDeed is one that may well be done. Who minds seldom falls where nobody could take: nobody would mind from then on.
func (c *chooser) nextDeed(x impl.Box) impl.Deed {
	s := x.Reg.Owner
	switch n := c.below(100); {
	case n < 6:
		in := []impl.In{tickIn(), tickIn(), linkIn(c.below(4), true), c.nextIn()}[c.below(4)]
		in.Port %= x.Ports
		return inDeed(in)
	case n < 50 && len(x.Net) > 0:
		return deedOf(impl.DdGive, c.below(len(x.Net)))
	case n < 62 && (len(x.Net) < 3 || c.below(20) == 0):
		return deedOf(impl.DdShip, s)
	case n < 72:
		return sayDeed()
	case n < 80:
		return deedOf(impl.DdPair, s)
	case n < 84:
		return deedOf(impl.DdTake, 1-s)
	case n < 87:
		return deedOf(wireKinds[1+c.below(2)], c.below(len(x.Net)+1))
	case n < 88:
		if by := c.below(2); by != s && impl.Minds(x.Reg, s, x.Two[s]) || by == s && hasHeir(x) || c.below(30) == 0 {
			return deedOf(impl.DdFall, by)
		}
		return deedOf(impl.DdAlone, s)
	case n < 93:
		return deedOf(impl.DdRise, c.below(2))
	case n < 96:
		return deedOf(impl.DdYield, 1-s)
	case n < 98:
		return impl.Deed{Kind: []int{0, 13, -1, 99}[c.below(4)], A: c.below(3), In: tickIn()}
	}
	return deedOf([]int{impl.DdShip, impl.DdTake, impl.DdPair, impl.DdYield, impl.DdGive}[c.below(5)], c.below(5)-1)
}

// begins tells whether log begins with line.
func begins(log []impl.In, line []impl.In) bool {
	return len(log) >= len(line) && slices.Equal(log[:len(line)], line)
}

// wantJudged asks that the gates are like one, that who minds is behind all that was said, and that who may take has all of that, takes, and goes on there.
func wantJudged(t *testing.T, x impl.Box) {
	t.Helper()
	wantLikeOne(t, x, x.Line)
	s := x.Reg.Owner
	if m := x.Two[s]; impl.Minds(x.Reg, s, m) && (m.Said != len(x.Line) || !begins(m.Log, x.Line)) {
		t.Fatalf("who minds is not behind what was said: %+v", x)
	}
	if impl.Minds(x.Reg, 1-s, x.Two[1-s]) {
		t.Fatalf("who is not the owner minds: %+v", x)
	}
	if !hasHeir(x) {
		return
	}
	to := x.Two[1-s]
	took, code := impl.Do(x, deedOf(impl.DdTake, 1-s))
	if code != impl.CdDone || !begins(to.Log, x.Line) || took.Two[1-s].Said != len(x.Line) {
		t.Fatalf("who has all does not take: %+v, %d, %+v", x, code, took)
	}
	for n := len(x.Line); n < len(to.Log); n++ {
		took = behindAll(t, took, sayDeed())
		wantLikeOne(t, took, to.Log[:n+1])
	}
}

// lostToWhoMinded makes of a deed that hands what came to one that minds, or did, the loss of it: that one would tell how many it has of its own, and those are not what is said of.
func lostToWhoMinded(x impl.Box, d impl.Deed) impl.Deed {
	if d.Kind == impl.DdGive && d.A >= 0 && d.A < len(x.Net) {
		if w := x.Net[d.A]; !w.Ack && x.Two[1-w.From].Epoch != 0 {
			d.Kind = impl.DdLose
		}
	}
	return d
}

// walk does what comes to c, so many times, and lets look see each that was done.
func (c *chooser) walk(x impl.Box, steps int, choose func(impl.Box) impl.Deed, look func(was impl.Box, d impl.Deed, now impl.Box)) {
	for range steps {
		d := choose(x)
		if got, code := impl.Do(x, d); code == impl.CdDone {
			look(x, d, got)
			x = got
		}
	}
}

// Whatever is done, and whatever is refused: nothing turns but what the chapter names.
func TestWhateverIsDone(t *testing.T) {
	done, refused := map[int]int{}, map[int]int{}
	for seed := range 60 {
		c := &chooser{uint64(seed)}
		x := newBox(1+c.below(9), 1+c.below(4))
		if seed%3 == 2 {
			// near its limits
			x.Two[0].Log, x.Net = slices.Repeat([]impl.In{tickIn()}, 58), wiresOf(20)
		}
		for range 400 {
			d := c.nextDeed(x)
			want, code := plainDo(x, d)
			got, how := impl.Do(x, d)
			if how != code || !sameBox(got, want) {
				t.Fatalf("Do(%+v, %+v): %+v %d, want %+v %d", x, d, got, how, want, code)
			}
			if how != impl.CdDone {
				refused[how]++
				continue
			}
			if !impl.BoxOk(got) {
				t.Fatalf("Do(%+v, %+v): it is none: %+v", x, d, got)
			}
			done[d.Kind]++
			x = got
		}
	}
	for _, kind := range allKinds {
		if done[kind] < 40 {
			t.Errorf("kind %d was done only %d times", kind, done[kind])
		}
	}
	for code := 1; code < 5; code++ {
		if refused[code] < 40 {
			t.Errorf("code %d only %d times", code, refused[code])
		}
	}
}

// Whoever falls when, and whatever is lost, late or comes twice: who has all can take, and goes on where the other one stopped.
func TestWhoHasAllCanTake(t *testing.T) {
	takes, heirs := 0, 0
	for seed := range 150 {
		c := &chooser{uint64(3000 + seed)}
		choose := func(x impl.Box) impl.Deed { return lostToWhoMinded(x, c.nextDeed(x)) }
		c.walk(newBox(1+c.below(9), 1+c.below(4)), 300, choose, func(_ impl.Box, d impl.Deed, x impl.Box) {
			wantJudged(t, x)
			takes += oneOf(d.Kind == impl.DdTake)
			heirs += oneOf(hasHeir(x))
		})
	}
	if takes < 100 || heirs < 500 {
		t.Errorf("%d were taken over, %d could be", takes, heirs)
	}
}

// The gates turn by what who minds says, and by nothing else that is done.
func TestGatesTurnWhereWhoMindsSays(t *testing.T) {
	turned := 0
	for seed := range 80 {
		c := &chooser{uint64(1000 + seed)}
		c.walk(newBox(1+c.below(9), 1+c.below(4)), 300, c.nextDeed, func(was impl.Box, d impl.Deed, now impl.Box) {
			same := slices.Equal(now.Gates, was.Gates) && slices.Equal(now.Said, was.Said) && slices.Equal(now.Line, was.Line)
			if d.Kind != impl.DdSay && !same {
				t.Fatalf("%+v of %+v turns gates: %+v", d, was, now)
			}
			s := was.Reg.Owner
			if d.Kind == impl.DdSay && (!impl.Minds(was.Reg, s, was.Two[s]) || now.Two[s].Said != was.Two[s].Said+1 || !sameMinder(now.Two[1-s], was.Two[1-s])) {
				t.Fatalf("it was not who minds: %+v of %+v: %+v", d, was, now)
			}
			turned += oneOf(!slices.Equal(now.Gates, was.Gates))
		})
	}
	if turned < 60 {
		t.Errorf("gates turned %d times", turned)
	}
}

// One behind the other is as all at once.
func TestDoAllIsDoOneBehindTheOther(t *testing.T) {
	for seed := range 40 {
		c := &chooser{uint64(2000 + seed)}
		first := newBox(1+c.below(9), 1+c.below(4))
		x := first
		var list []impl.Deed
		var codes []int
		for range 300 {
			d := c.nextDeed(x)
			got, code := impl.Do(x, d)
			if code == impl.CdDone {
				x = got
			}
			list, codes = append(list, d), append(codes, code)
		}
		wantDoAll(t, first, list, x, codes)
		half, before := impl.DoAll(first, list[:150])
		wantDoAll(t, half, list[150:], x, codes[150:])
		if !slices.Equal(before, codes[:150]) {
			t.Fatalf("the first half: %v, want %v", before, codes[:150])
		}
	}
}

// What is asked at once by many is answered as by one, from the first time on.
func TestDoByManyAtOnce(t *testing.T) {
	x := lowBox()
	x.Net = wiresOf(5)
	list := deedsFor(x)
	want, codes := plainDoAll(x, list)
	var all sync.WaitGroup
	for range 16 {
		all.Go(func() {
			if got, how := impl.DoAll(x, list); !slices.Equal(how, codes) || !sameBox(got, want) {
				t.Errorf("DoAll(%+v, %+v): %+v %v", x, list, got, how)
			}
			for _, d := range list {
				wantDoAsPlain(t, x, d)
			}
		})
	}
	all.Wait()
}

// What is asked twice of the same is answered twice the same: nothing is kept.
func TestDoKeepsNothing(t *testing.T) {
	for range 3 {
		for _, x := range []impl.Box{newBox(3, 2), lowBox(), plainBox(), fullBox(), fallenBox()} {
			for _, d := range deedsFor(x) {
				wantDoAsPlain(t, x, d)
				got, _ := impl.Do(x, d)
				scrawlBox(got)
			}
		}
	}
}

// manyRooms are boxes of all kinds, each list with room behind it.
func manyRooms() []impl.Box {
	var list []impl.Box
	for at, x := range slices.Concat([]impl.Box{lowBox(), turnedBox(lowBox()), turnedBox(fullBox())}, goodBoxes(), nobodyMinds(), bentBoxes()[:40]) {
		if at < 60 || at%5 == 0 {
			list = append(list, roomy(x))
		}
	}
	withWires := boxBent(lowBox(), func(x *impl.Box) {
		x.Net = []impl.Wire{wireOf(0, 7, 6, tickIn()), ackWire(1, 8, 3), wireOf(1, 5, 6, tickIn()), wireOf(0, 6, 6, tickIn()), ackWire(0, 9, 1)}
	})
	return append(list, roomy(withWires), roomy(turnedBox(withWires)), roomy(boxBent(withWires, func(x *impl.Box) { x.Two[1].Epoch = 2 })), roomy(boxBent(withWires, func(x *impl.Box) { x.Two[0].Acked = 5 })))
}

func TestDoWritesIntoNoArgument(t *testing.T) {
	for _, x := range manyRooms() {
		kept := behind(x)
		list := deedsFor(x)
		list = append(list, impl.Deed{Kind: 78}, impl.Deed{Kind: 79})[:len(list)]
		asked := slices.Clone(list[:cap(list)])
		for _, d := range list {
			impl.Do(x, d)
			if !sameBox(behind(x), kept) {
				t.Fatalf("%+v writes into: %+v, was %+v", d, behind(x), kept)
			}
		}
		impl.DoAll(x, list)
		impl.DoAll(x, list[:3])
		if !sameBox(behind(x), kept) || !slices.Equal(list[:cap(list)], asked) {
			t.Fatalf("DoAll writes into: %+v, was %+v", behind(x), kept)
		}
	}
}

// wantOwnAnswers writes over one answer, then over what was handed in, and looks whether the other answer stays.
func wantOwnAnswers(t *testing.T, x impl.Box, list []impl.Deed, answer func(impl.Box, []impl.Deed) (impl.Box, []int)) {
	t.Helper()
	x, list = roomy(x), append(slices.Clone(list), impl.Deed{Kind: 78})[:len(list)]
	kept, asked := behind(x), slices.Clone(list[:cap(list)])
	one, oneCodes := answer(x, list)
	two, twoCodes := answer(x, list)
	want, codes := copyBox(two), slices.Clone(twoCodes)
	wantApartInBox(t, one)
	scrawlBox(one)
	scrawl(oneCodes, 77)
	if !sameBox(behind(x), kept) || !slices.Equal(list[:cap(list)], asked) || !sameBox(two, want) || !slices.Equal(twoCodes, codes) {
		t.Fatalf("%+v of %+v shares memory: %+v %v", asked, kept, two, twoCodes)
	}
	scrawlBox(x)
	scrawl(list, impl.Deed{Kind: 77})
	if !sameBox(two, want) || !slices.Equal(twoCodes, codes) {
		t.Fatalf("what %+v of %+v answered is now %+v %v", asked, kept, two, twoCodes)
	}
}

func doFirst(x impl.Box, list []impl.Deed) (impl.Box, []int) {
	next, code := impl.Do(x, list[0])
	return next, []int{code}
}

func TestDoSharesNoMemory(t *testing.T) {
	for _, x := range manyRooms() {
		for _, d := range deedsFor(x) {
			wantOwnAnswers(t, x, []impl.Deed{d}, doFirst)
		}
		wantOwnAnswers(t, x, nil, impl.DoAll)
		wantOwnAnswers(t, x, []impl.Deed{{}}, impl.DoAll)
		wantOwnAnswers(t, x, deedsFor(x), impl.DoAll)
		wantOwnAnswers(t, x, make([]impl.Deed, 301), impl.DoAll)
	}
}

// No two lists of one answer share memory, even where those that were handed in are one.
func TestListsBehindADeedAreApart(t *testing.T) {
	for s := range 2 {
		log := append(upLog(3), linkIn(2, false), tickIn())
		x := boxBent(lowBox(), func(x *impl.Box) {
			x.Net = []impl.Wire{wireOf(s, x.Two[1-s].Life, 3, tickIn()), wireOf(1-s, x.Two[s].Life, 3, tickIn()), ackWire(1-s, 9, 2)}
			x.Reg.Pair = 0
		})
		for _, pieces := range [][]int{{0, 9, 0, 9, 0, 9}, {0, 9, 0, 5, 0, 4}, {0, 3, 3, 6, 6, 9}, {0, 6, 0, 3, 0, 5}} {
			for _, d := range deedsFor(x) {
				shared := slices.Clone(log)
				x.Two[0].Log, x.Two[1].Log, x.Line = shared[pieces[0]:pieces[1]], shared[pieces[2]:pieces[3]], shared[pieces[4]:pieces[5]]
				x.Two[0].Said, x.Two[0].Acked = 2, 3
				want, code := plainDo(x, d)
				wantDo(t, x, d, want, code)
				got, _ := impl.Do(x, d)
				wantApartInBox(t, got)
				all, _ := impl.DoAll(x, []impl.Deed{d, d})
				wantApartInBox(t, all)
			}
		}
	}
}

func FuzzDeed(f *testing.F) {
	f.Add(uint64(1), 3, 1, impl.DdTake, 1, 0, 0, 1, uint8(6), uint8(4), uint8(3), 7, 6, false)
	f.Add(uint64(2), 100000, 100000, impl.DdRise, 0, 99999, 100000, 0, uint8(60), uint8(60), uint8(20), 100000, 60, true)
	f.Add(uint64(3), 0, -1, impl.DdGive, 2, 7, 7, 1, uint8(2), uint8(2), uint8(5), 7, 2, false)
	f.Add(uint64(4), 2, 7, 13, math.MaxInt, math.MinInt, -1, 2, uint8(61), uint8(61), uint8(21), 100001, -1, true)
	f.Fuzz(func(t *testing.T, seed uint64, epoch int, pair int, kind int, a int, life int, ackLife int, owner int, count uint8, line uint8, wires uint8, wireLife int, n int, ack bool) {
		c := &chooser{seed}
		log := logOf(int(count)%62, int(seed&0xffff))
		x := newBox(1+c.below(9), 1+c.below(4))
		x.Reg = regOf(epoch, owner, pair)
		x.Two[0] = impl.Minder{Up: true, Life: life, Epoch: epoch, Log: log, Said: c.below(len(log) + 1), Acked: c.below(len(log) + 1), AckLife: ackLife}
		x.Two[1] = impl.Minder{Up: ack, Life: ackLife}
		x.Line, x.Net = log[:min(int(line), len(log))], append(wiresOf(int(wires)%22), impl.Wire{From: a & 1, Ack: ack, Life: wireLife, N: n})
		if !ack {
			x.Net[len(x.Net)-1].In, x.Two[1].Log = tickIn(), log[:len(log)/2]
		}
		for _, x := range []impl.Box{
			x, boxBent(x, func(x *impl.Box) {
				x.Reg, x.Net = regOf(1+epoch&0xffff, owner&1, pair&0xffff), x.Net[max(0, len(x.Net)-20):]
				x.Two[0].Life, x.Two[0].Epoch, x.Two[0].AckLife, x.Two[1].Life = life&0xffff, 1+epoch&0xffff, ackLife&0xffff, ackLife&0xffff
			}),
			boxBent(x, func(x *impl.Box) { x.Reg, x.Two[0].Epoch, x.Two[1].Up = regOf(1, 0, ackLife), 1, true }),
			boxBent(x, func(x *impl.Box) { x.Reg, x.Two[1].Up, x.Two[1].Log = regOf(1, 0, ackLife), true, log }),
		} {
			kept := copyBox(x)
			for _, d := range []impl.Deed{{Kind: kind, A: a, In: c.nextIn()}, {Kind: kind, A: a & 1}, {Kind: kind, A: len(x.Net) - 1}, c.nextDeed(boxBent(x, func(x *impl.Box) { x.Reg.Owner &= 1 })), {Kind: 1 + kind&7, A: a & 3, In: tickIn()}, deedOf(impl.DdGive, len(x.Net)-1)} {
				wantDoAsPlain(t, x, d)
			}
			list := []impl.Deed{{Kind: kind, A: a}, deedOf(impl.DdGive, 0), sayDeed(), deedOf(impl.DdTake, a&1), {Kind: kind, A: a & 1, In: tickIn()}}
			want, codes := plainDoAll(x, list)
			wantDoAll(t, x, list, want, codes)
			if !sameBox(x, kept) {
				t.Errorf("was written into: %+v, was %+v", x, kept)
			}
		}
	})
}
