package tests

import (
	"math"
	"slices"
	"testing"

	"loop.example/g00470/impl"
)

// edgeNumbers are at the edges of what a minder counts to, and beyond.
var edgeNumbers = []int{math.MinInt, math.MinInt + 1, -1 << 32, -100001, -100000, -60, -2, -1, 0, 1, 2, 59, 60, 61, 99999, 100000, 100001, 100002, 200000, 1 << 31, 1 << 32, 1<<32 + 1, math.MaxInt - 1, math.MaxInt}

func copyMinder(m impl.Minder) impl.Minder {
	m.Log = slices.Clone(m.Log)
	return m
}

func sameMinder(a impl.Minder, b impl.Minder) bool {
	return a.Up == b.Up && a.Life == b.Life && a.Epoch == b.Epoch && slices.Equal(a.Log, b.Log) && a.Said == b.Said && a.Acked == b.Acked && a.AckLife == b.AckLife
}

func minderBent(m impl.Minder, turn func(*impl.Minder)) impl.Minder {
	m = copyMinder(m)
	turn(&m)
	return m
}

func upMinder(log ...impl.In) impl.Minder { return impl.Minder{Up: true, Life: 1, Epoch: 1, Log: log} }

// logOf is a log of that length, of all kinds of what can come in.
func logOf(count int, seed int) []impl.In {
	c := &chooser{uint64(seed)}
	list := make([]impl.In, count)
	for at := range list {
		list[at] = c.nextIn()
	}
	return list
}

// mixedLog has among what can come in what can't.
func mixedLog(count int, seed int) []impl.In {
	c := &chooser{uint64(seed)}
	bent := bentIns()
	list := logOf(count, seed)
	for at := range list {
		if c.below(4) == 0 {
			list[at] = bent[c.below(len(bent))]
		}
	}
	return list
}

func goodLogs() [][]impl.In {
	list := [][]impl.In{nil, {}, {tickIn()}, {linkIn(0, true)}, {claimIn(0, vecOf(1, 0, 1, 0), 0)}, told().log, slices.Repeat([]impl.In{tickIn()}, 60)}
	for seed := range 30 {
		list = append(list, logOf(seed*2+1, seed), logOf(60, seed))
	}
	return list
}

// bentLogs are of no minder: they are too long, or one of them can't come in.
func bentLogs() [][]impl.In {
	list := [][]impl.In{slices.Repeat([]impl.In{tickIn()}, 61), logOf(61, 3), logOf(62, 4), logOf(120, 5), logOf(5000, 6), make([]impl.In, 60), make([]impl.In, 61)}
	good := logOf(60, 1)
	for at, x := range bentIns() {
		list = append(list, []impl.In{x}, slices.Concat(good[:at%8], []impl.In{x}, good[at%8:7]), slices.Concat(good[:59], []impl.In{x}))
	}
	for at := range good {
		log := slices.Clone(good)
		log[at] = impl.In{}
		list = append(list, log)
	}
	return list
}

func goodMinders() []impl.Minder {
	list := []impl.Minder{{}, {Life: 1}, {Life: 100000}, {Up: true}, {Life: 7, Log: []impl.In{}}, {Up: true, Life: 100000, Epoch: 100000, AckLife: 100000}}
	c := &chooser{12}
	for _, log := range goodLogs() {
		count := len(log)
		list = append(list, upMinder(log...), impl.Minder{Up: true, Life: 2, Log: log}, impl.Minder{Up: true, Life: 3, Epoch: 2, Log: log, Said: count, Acked: count, AckLife: 2},
			impl.Minder{Up: true, Life: c.below(100001), Epoch: c.below(100001), Log: log, Said: c.below(count + 1), Acked: c.below(count + 1), AckLife: c.below(100001)})
	}
	return list
}

// bentMinders are none, each for one reason or several.
func bentMinders() []impl.Minder {
	var list []impl.Minder
	busy := impl.Minder{Up: true, Life: 3, Epoch: 2, Log: logOf(7, 1), Said: 3, Acked: 5, AckLife: 2}
	for _, n := range edgeNumbers {
		if n < 0 || n > 100000 {
			for _, m := range []impl.Minder{busy, upMinder(), {}} {
				list = append(list, minderBent(m, func(m *impl.Minder) { m.Life = n }), minderBent(m, func(m *impl.Minder) { m.Epoch = n }), minderBent(m, func(m *impl.Minder) { m.AckLife = n }))
			}
		}
		for _, m := range []impl.Minder{busy, upMinder()} {
			if n < 0 || n > len(m.Log) {
				list = append(list, minderBent(m, func(m *impl.Minder) { m.Said = n }), minderBent(m, func(m *impl.Minder) { m.Acked = n }))
			}
		}
	}
	for _, log := range bentLogs() {
		list = append(list, upMinder(log...), impl.Minder{Up: true, Log: log, Said: len(log), Acked: len(log)}, impl.Minder{Log: log})
	}
	// what is not up has nothing but Life
	for _, life := range []int{0, 1, 100000} {
		for _, n := range []int{1, 2, 60, 100000} {
			list = append(list, impl.Minder{Life: life, Epoch: n}, impl.Minder{Life: life, Said: n}, impl.Minder{Life: life, Acked: n}, impl.Minder{Life: life, AckLife: n})
		}
		for _, log := range goodLogs() {
			if len(log) > 0 {
				list = append(list, impl.Minder{Life: life, Log: log}, impl.Minder{Life: life, Epoch: 1, Log: log, Said: 1, Acked: 1, AckLife: 2})
			}
		}
	}
	return list
}

// plainMinderOk, and the plain ones behind it, say again what the chapter says.
func plainMinderOk(m impl.Minder) bool {
	for _, n := range []int{m.Life, m.Epoch, m.AckLife} {
		if n < 0 || n > 100000 {
			return false
		}
	}
	for _, n := range []int{m.Said, m.Acked} {
		if n < 0 || n > len(m.Log) {
			return false
		}
	}
	for at, x := range m.Log {
		if at >= 60 || !plainInOk(x) {
			return false
		}
	}
	return m.Up || m.Epoch == 0 && len(m.Log) == 0 && m.Said == 0 && m.Acked == 0 && m.AckLife == 0
}

// plainTelling is what a log makes of a new bridge, and what that says to each.
func plainTelling(id int, ports int, log []impl.In) (impl.Bridge, [][]impl.Out) {
	if id < 1 || id > 9 || ports < 1 || ports > 4 {
		return impl.Bridge{}, make([][]impl.Out, len(log))
	}
	b := impl.Bridge{Id: id, Ports: make([]impl.Port, ports)}
	var all [][]impl.Out
	for _, x := range log {
		next, said := plainReact(b, x)
		b, all = next, append(all, said)
	}
	return b, all
}

func plainGates(b impl.Bridge) []bool {
	var list []bool
	for _, p := range b.Ports {
		list = append(list, p.Open)
	}
	return list
}

func plainNote(m impl.Minder, x impl.In) (impl.Minder, bool) {
	next := copyMinder(m)
	next.Log = append(next.Log, x)
	if !m.Up || !plainMinderOk(next) {
		return copyMinder(m), false
	}
	return next, true
}

func plainReady(m impl.Minder, pair int) bool {
	if !m.Up || m.Epoch <= 0 || m.Said >= len(m.Log) {
		return false
	}
	return pair == 0 || m.AckLife == pair && m.Acked > m.Said
}

func wantMinderOk(t *testing.T, m impl.Minder, want bool) {
	t.Helper()
	if got := impl.MinderOk(m); got != want {
		t.Errorf("MinderOk(%+v): %v", m, got)
	}
}

func wantBridgeOf(t *testing.T, id int, ports int, log []impl.In, want impl.Bridge) {
	t.Helper()
	if got := impl.BridgeOf(id, ports, log); !sameBridge(got, want) {
		t.Errorf("BridgeOf(%d, %d, %+v): %+v, want %+v", id, ports, log, got, want)
	}
}

func wantSaying(t *testing.T, id int, ports int, log []impl.In, n int, want ...impl.Out) {
	t.Helper()
	if got := impl.Saying(id, ports, log, n); !slices.Equal(got, want) {
		t.Errorf("Saying(%d, %d, %+v, %d): %+v, want %+v", id, ports, log, n, got, want)
	}
}

func wantGates(t *testing.T, b impl.Bridge, want ...bool) {
	t.Helper()
	if got := impl.Gates(b); !slices.Equal(got, want) {
		t.Errorf("Gates(%+v): %v, want %v", b, got, want)
	}
}

func wantNote(t *testing.T, m impl.Minder, x impl.In, want impl.Minder, noted bool) {
	t.Helper()
	if got, ok := impl.Note(m, x); ok != noted || !sameMinder(got, want) {
		t.Errorf("Note(%+v, %+v): %+v %v, want %+v %v", m, x, got, ok, want, noted)
	}
}

func wantReady(t *testing.T, m impl.Minder, pair int, want bool) {
	t.Helper()
	if got := impl.Ready(m, pair); got != want {
		t.Errorf("Ready(%+v, %d): %v", m, pair, got)
	}
}

// wantMinderAsPlain holds all that is asked of m against what the chapter says.
func wantMinderAsPlain(t *testing.T, m impl.Minder) {
	t.Helper()
	wantMinderOk(t, m, plainMinderOk(m))
	for _, x := range []impl.In{tickIn(), linkIn(3, false), claimIn(1, vecOf(2, 1, 4, 0), 8), {}, linkIn(4, true), {Kind: impl.InTick, Up: true}} {
		want, ok := plainNote(m, x)
		wantNote(t, m, x, want, ok)
	}
	for _, pair := range []int{0, 1, 2, -1, m.AckLife, m.AckLife + 1, m.Life, m.Epoch, math.MinInt, math.MaxInt} {
		wantReady(t, m, pair, plainReady(m, pair))
	}
}

// wantLogAsPlain holds all that is made of a log against what the chapter says, at each of its places and beside them.
func wantLogAsPlain(t *testing.T, id int, ports int, log []impl.In) {
	t.Helper()
	b, all := plainTelling(id, ports, log)
	wantBridgeOf(t, id, ports, log, b)
	wantGates(t, impl.BridgeOf(id, ports, log), plainGates(b)...)
	for n, said := range all {
		wantSaying(t, id, ports, log, n, said...)
	}
	for _, n := range []int{math.MinInt, -len(log) - 1, -len(log), -2, -1, len(log), len(log) + 1, math.MaxInt - 1, math.MaxInt} {
		if n < 0 || n >= len(log) {
			wantSaying(t, id, ports, log, n)
		}
	}
}

func TestMinderLimits(t *testing.T) {
	if impl.MaxLog != 60 || impl.MaxNum != 100000 {
		t.Error("limits", impl.MaxLog, impl.MaxNum)
	}
}

func TestMinderOk(t *testing.T) {
	for _, m := range goodMinders() {
		wantMinderOk(t, m, true)
	}
	for _, m := range bentMinders() {
		wantMinderOk(t, m, false)
	}
}

func TestMinderOkAtItsEdges(t *testing.T) {
	for count := range 62 {
		if count > 4 && count < 58 {
			continue
		}
		m := impl.Minder{Up: true, Life: 3, Epoch: 2, Log: logOf(count, count), AckLife: 2}
		for _, n := range edgeNumbers {
			fits, begins := count <= 60 && n >= 0 && n <= 100000, count <= 60 && n >= 0 && n <= count
			wantMinderOk(t, minderBent(m, func(m *impl.Minder) { m.Life = n }), fits)
			wantMinderOk(t, minderBent(m, func(m *impl.Minder) { m.Epoch = n }), fits)
			wantMinderOk(t, minderBent(m, func(m *impl.Minder) { m.AckLife = n }), fits)
			wantMinderOk(t, minderBent(m, func(m *impl.Minder) { m.Said = n }), begins)
			wantMinderOk(t, minderBent(m, func(m *impl.Minder) { m.Acked = n }), begins)
		}
		for n := -2; n < 64; n++ {
			begins := count <= 60 && n >= 0 && n <= count
			wantMinderOk(t, minderBent(m, func(m *impl.Minder) { m.Said = n }), begins)
			wantMinderOk(t, minderBent(m, func(m *impl.Minder) { m.Acked = n }), begins)
			wantMinderOk(t, minderBent(m, func(m *impl.Minder) { m.Said, m.Acked = n, n }), begins)
		}
	}
}

func TestMinderOkOfSoLongALog(t *testing.T) {
	for count := range 130 {
		log := logOf(count, count)
		wantMinderOk(t, upMinder(log...), count <= 60)
		wantMinderOk(t, impl.Minder{Up: true, Log: log, Said: count, Acked: count}, count <= 60)
		wantMinderOk(t, impl.Minder{Log: log}, count == 0)
		// one that can't come in, at each place
		for at := range log {
			log[at].Kind += 4
			wantMinderOk(t, upMinder(log...), false)
			log[at].Kind -= 4
		}
	}
}

// Said and Acked are asked for each alone: neither hangs on the other one, nor on the Lives.
func TestMinderOkAsksNoMore(t *testing.T) {
	for said := range 4 {
		for acked := range 4 {
			for _, life := range []int{0, 1, 100000} {
				for _, epoch := range []int{0, 1, 100000} {
					for _, other := range []int{0, 1, 100000} {
						wantMinderOk(t, impl.Minder{Up: true, Life: life, Epoch: epoch, Log: logOf(3, said), Said: said, Acked: acked, AckLife: other}, true)
					}
				}
			}
		}
	}
}

func TestMinderThatIsNotUp(t *testing.T) {
	for _, n := range edgeNumbers {
		wantMinderOk(t, impl.Minder{Life: n}, n >= 0 && n <= 100000)
		wantMinderOk(t, impl.Minder{Life: n, Log: []impl.In{}}, n >= 0 && n <= 100000)
		// each other field alone, beside some Life and beside none
		for _, life := range []int{0, 1, 7, 100000} {
			wantMinderOk(t, impl.Minder{Life: life, Epoch: n}, n == 0)
			wantMinderOk(t, impl.Minder{Life: life, Said: n}, n == 0)
			wantMinderOk(t, impl.Minder{Life: life, Acked: n}, n == 0)
			wantMinderOk(t, impl.Minder{Life: life, AckLife: n}, n == 0)
		}
	}
	for _, life := range []int{0, 1, 7, 100000} {
		for count := 1; count < 63; count++ {
			wantMinderOk(t, impl.Minder{Life: life, Log: logOf(count, count)}, false)
			wantMinderOk(t, impl.Minder{Life: life, Log: make([]impl.In, count)}, false)
		}
	}
	// a log with room behind it, but nothing in it, is none
	room := logOf(9, 1)
	wantMinderOk(t, impl.Minder{Life: 4, Log: room[:0]}, true)
	wantMinderOk(t, impl.Minder{Up: true, Life: 4, Log: room[:0]}, true)
	wantMinderOk(t, impl.Minder{Up: true, Life: 4, Log: room[:0], Said: 1}, false)
}

func TestMinderAsTheChapterSays(t *testing.T) {
	for _, m := range slices.Concat(goodMinders(), bentMinders()) {
		wantMinderAsPlain(t, m)
		if t.Failed() {
			t.FailNow()
		}
	}
	// few numbers, each with each
	numbers := []int{-1, 0, 1, 2, 3}
	for _, up := range []bool{false, true} {
		for count := range 3 {
			for _, epoch := range numbers {
				for _, said := range numbers {
					for _, acked := range numbers {
						for _, other := range numbers[:4] {
							wantMinderAsPlain(t, impl.Minder{Up: up, Life: 1, Epoch: epoch, Log: logOf(count, count), Said: said, Acked: acked, AckLife: other})
						}
					}
				}
			}
		}
	}
}

// story is a log with what bridge 5 of two ports says to each of it.
type story struct {
	log   []impl.In
	said  [][]impl.Out
	gates []string // of each port behind that: o open, s shut
}

func (s *story) tells(x impl.In, gates string, said ...impl.Out) {
	s.log, s.gates, s.said = append(s.log, x), append(s.gates, gates), append(s.said, said)
}

func told() story {
	var s story
	own := []impl.Out{claimOut(0, vecOf(5, 0, 5, 0), 0), claimOut(1, vecOf(5, 0, 5, 1), 0)}
	s.tells(linkIn(0, true), "ss")
	s.tells(linkIn(1, true), "ss")
	for range 3 {
		s.tells(tickIn(), "ss", own...)
	}
	s.tells(tickIn(), "oo", gateOut(0, true), gateOut(1, true), own[0], own[1])
	// one leads, and the other one is a ring
	s.tells(claimIn(1, vecOf(2, 1, 4, 0), 1), "oo")
	s.tells(tickIn(), "oo", claimOut(0, vecOf(2, 2, 5, 0), 2))
	s.tells(claimIn(0, vecOf(2, 1, 4, 1), 1), "so", gateOut(0, false))
	s.tells(tickIn(), "so")
	// it is gone, and so is what was claimed, in the end
	s.tells(linkIn(1, false), "ss", gateOut(1, false))
	s.tells(tickIn(), "ss")
	for range 2 {
		s.tells(tickIn(), "ss", own[0])
	}
	s.tells(tickIn(), "os", gateOut(0, true), own[0])
	s.tells(linkIn(0, true), "os")
	s.tells(linkIn(0, false), "ss", gateOut(0, false))
	s.tells(tickIn(), "ss")
	return s
}

func TestWhatIsToldOfALog(t *testing.T) {
	s := told()
	for count := range len(s.log) + 1 {
		for n := range count {
			wantSaying(t, 5, 2, s.log[:count], n, s.said[n]...)
		}
		for n := count; n < len(s.log)+2; n++ {
			wantSaying(t, 5, 2, s.log[:count], n)
		}
		gates := "ss"
		if count > 0 {
			gates = s.gates[count-1]
		}
		wantGates(t, impl.BridgeOf(5, 2, s.log[:count]), openOf(gates)...)
	}
	open, led := portFor(impl.RoDes, 0), vecOf(2, 1, 4, 0)
	wantBridgeOf(t, 5, 2, s.log[:1], bridgeOf(5, portFor(impl.RoDes, 4), impl.Port{}))
	wantBridgeOf(t, 5, 2, s.log[:5], bridgeOf(5, portFor(impl.RoDes, 1), portFor(impl.RoDes, 1)))
	wantBridgeOf(t, 5, 2, s.log[:6], bridgeOf(5, open, open))
	wantBridgeOf(t, 5, 2, s.log[:8], bridgeOf(5, open, withClaim(portFor(impl.RoRoot, 0), led, 1, 2)))
	wantBridgeOf(t, 5, 2, s.log[:10], bridgeOf(5, withClaim(portFor(impl.RoAlt, 0), vecOf(2, 1, 4, 1), 1, 2), withClaim(portFor(impl.RoRoot, 0), led, 1, 1)))
	wantBridgeOf(t, 5, 2, s.log, bridgeOf(5, impl.Port{}, impl.Port{}))
}

func TestBridgeOfNoLog(t *testing.T) {
	for id := 1; id <= 9; id++ {
		for ports := 1; ports <= 4; ports++ {
			b, _ := impl.BridgeNew(id, ports)
			wantBridgeOf(t, id, ports, nil, b)
			wantBridgeOf(t, id, ports, []impl.In{}, b)
			wantGates(t, impl.BridgeOf(id, ports, nil), make([]bool, ports)...)
			for _, n := range wildNumbers {
				wantSaying(t, id, ports, nil, n)
				wantSaying(t, id, ports, []impl.In{}, n)
			}
		}
	}
}

func TestNoSuchBridgeSaysNothing(t *testing.T) {
	logs := [][]impl.In{nil, {tickIn()}, told().log, logOf(60, 1), mixedLog(70, 2)}
	for _, id := range append(wildNumbers, 10, 11, -9) {
		for _, ports := range append(wildNumbers, 6, 100000, 1<<40) {
			if id >= 1 && id <= 9 && ports >= 1 && ports <= 4 {
				continue
			}
			for _, log := range logs {
				wantBridgeOf(t, id, ports, log, impl.Bridge{})
				for _, n := range append(wildNumbers, len(log)-1, len(log)) {
					wantSaying(t, id, ports, log, n)
				}
			}
		}
	}
}

func TestLogOfWhatCantComeIn(t *testing.T) {
	s := told()
	b := impl.BridgeOf(5, 2, s.log[:10])
	for _, x := range append(bentIns(), linkIn(2, true), linkIn(3, true), claimIn(2, vecOf(1, 0, 1, 0), 0), claimIn(3, vecOf(1, 0, 1, 0), 0)) {
		wantBridgeOf(t, 5, 2, []impl.In{x}, impl.Bridge{Id: 5, Ports: make([]impl.Port, 2)})
		// as if it had not come
		log := slices.Insert(slices.Clone(s.log[:10]), 8, x)
		wantBridgeOf(t, 5, 2, log, b)
		wantSaying(t, 5, 2, log, 8)
		wantSaying(t, 5, 2, log, 9, s.said[8]...)
		wantSaying(t, 5, 2, log, 7, s.said[7]...)
		wantBridgeOf(t, 5, 2, append(slices.Clone(s.log[:10]), x, x, x), b)
	}
}

func TestLogAsTheChapterSays(t *testing.T) {
	for at, log := range append(goodLogs(), bentLogs()[:60]...) {
		wantLogAsPlain(t, 1+at%9, 1+at%4, log[:min(len(log), 130)])
		wantLogAsPlain(t, 9-at%9, 4, log[:min(len(log), 130)])
	}
	for seed := range 40 {
		wantLogAsPlain(t, 1+seed%9, 1+seed%4, mixedLog(30+seed, seed))
	}
}

// A log that no minder has room for makes a bridge, too.
func TestLogThatIsTooLong(t *testing.T) {
	for _, count := range []int{60, 61, 62, 100, 1000} {
		log := logOf(count, count)
		b, all := plainTelling(9, 3, log)
		wantBridgeOf(t, 9, 3, log, b)
		for _, n := range []int{0, 59, 60, 61, 99, count - 2, count - 1} {
			if n < count {
				wantSaying(t, 9, 3, log, n, all[n]...)
			}
		}
		wantSaying(t, 9, 3, log, count)
	}
	// all is said by the last one alone
	log := append(slices.Repeat([]impl.In{linkIn(0, false)}, 200), linkIn(0, true), tickIn(), tickIn(), tickIn(), tickIn())
	wantSaying(t, 3, 1, log, 204, gateOut(0, true), claimOut(0, vecOf(3, 0, 3, 0), 0))
}

func TestSayingOfNoPlace(t *testing.T) {
	for _, log := range [][]impl.In{{tickIn()}, told().log, upLog(4), logOf(60, 3)} {
		for _, n := range edgeNumbers {
			if n < 0 || n >= len(log) {
				wantSaying(t, 5, 4, log, n)
			}
		}
		for n := range 5 {
			wantSaying(t, 5, 4, log, len(log)+n)
			wantSaying(t, 5, 4, log, -1-n)
			// also where there is room behind, with something in it
			wantSaying(t, 5, 4, log[:0], n)
			wantSaying(t, 5, 4, log[:1], 1+n)
		}
	}
}

// upLog has so many ports come up, and wait until they open, with the last one.
func upLog(ports int) []impl.In {
	var log []impl.In
	for port := range ports {
		log = append(log, linkIn(port, true))
	}
	return append(log, tickIn(), tickIn(), tickIn(), tickIn())
}

func TestGates(t *testing.T) {
	open, waits, alt, down := portFor(impl.RoDes, 0), portFor(impl.RoDes, 2), portFor(impl.RoAlt, 0), impl.Port{}
	wantGates(t, bridgeOf(5, open), true)
	wantGates(t, bridgeOf(5, waits), false)
	wantGates(t, bridgeOf(5, open, waits, alt, down), true, false, false, false)
	wantGates(t, bridgeOf(5, down, alt, waits, open), false, false, false, true)
	wantGates(t, bridgeOf(5, portFor(impl.RoRoot, 0), down, open), true, false, true)
	wantGates(t, impl.BridgeOf(5, 4, upLog(4)), true, true, true, true)
	wantGates(t, impl.BridgeOf(5, 4, upLog(3)), true, true, true, false)
	wantGates(t, impl.BridgeOf(5, 4, upLog(4)[:7]), false, false, false, false)
	for _, b := range goodBridges() {
		wantGates(t, b, plainGates(b)...)
	}
}

// Gates asks nothing else of what it is handed: neither whether it is a bridge, nor what its ports are for.
func TestGatesOfNoBridge(t *testing.T) {
	wantGates(t, impl.Bridge{})
	wantGates(t, impl.Bridge{Id: 5})
	wantGates(t, impl.Bridge{Id: 5, Ports: []impl.Port{}})
	wantGates(t, bridgeOf(0, portFor(impl.RoDes, 0)), true)
	wantGates(t, bridgeOf(10, portFor(impl.RoDes, 0), impl.Port{}), true, false)
	wantGates(t, bridgeOf(5, impl.Port{Open: true}, impl.Port{Up: true, Role: impl.RoDes}, impl.Port{Open: true, Wait: 3}), true, false, true)
	wantGates(t, bridgeOf(5, slices.Repeat([]impl.Port{{Open: true}, {}}, 500)...), slices.Repeat([]bool{true, false}, 500)...)
	for _, b := range bentBridges() {
		wantGates(t, b, plainGates(b)...)
	}
}

func TestNoteUpToItsLimit(t *testing.T) {
	for seed := range 8 {
		log := logOf(62, seed)
		m := impl.Minder{Up: true, Life: 100000, Epoch: seed, AckLife: seed}
		for at, x := range log {
			if at == 60 {
				break
			}
			next := minderBent(m, func(m *impl.Minder) { m.Log = slices.Clone(log[:at+1]) })
			wantNote(t, m, x, next, true)
			wantMinderOk(t, next, true)
			m, _ = impl.Note(m, x)
			// also once all of it is said, and the other one has it
			if at%3 == 0 {
				m.Said, m.Acked = at+1, at
			}
		}
		for _, x := range append(goodIns(), bentIns()...) {
			wantNote(t, m, x, m, false)
		}
		if len(m.Log) != 60 || !slices.Equal(m.Log, log[:60]) {
			t.Fatalf("what was written down: %+v, want %+v", m.Log, log[:60])
		}
	}
}

func TestNoteOfWhatCantComeIn(t *testing.T) {
	for _, m := range []impl.Minder{upMinder(), upMinder(told().log...), {Up: true}, {Up: true, Life: 2, Log: logOf(59, 2), Said: 3, Acked: 7, AckLife: 9}} {
		for _, x := range bentIns() {
			wantNote(t, m, x, m, false)
		}
		for _, x := range goodIns() {
			want := copyMinder(m)
			want.Log = append(want.Log, x)
			wantNote(t, m, x, want, true)
		}
	}
}

func TestNoteOfWhatIsNotUp(t *testing.T) {
	for _, n := range edgeNumbers {
		for _, m := range []impl.Minder{{Life: n}, {Life: 1, Epoch: n}, {Life: 1, Said: n}, {Life: 1, Acked: n}, {Life: 1, AckLife: n}, {Life: n, Epoch: 1, Log: told().log, Said: 2, Acked: 3, AckLife: 4}} {
			for _, x := range []impl.In{tickIn(), linkIn(1, true), claimIn(0, vecOf(1, 0, 1, 0), 0), {}} {
				wantNote(t, m, x, m, false)
			}
		}
	}
}

// The chapter asks what it would be then: of what is none only one that was said of, or had by the other one, by one too many is one then.
func TestNoteOfWhatIsNoMinder(t *testing.T) {
	mended := 0
	for _, m := range bentMinders() {
		for _, x := range []impl.In{tickIn(), linkIn(1, true), claimIn(0, vecOf(1, 0, 1, 0), 0), {}, linkIn(4, false)} {
			next, ok := impl.Note(m, x)
			if ok {
				mended++
				wantMinderOk(t, next, true)
				if !m.Up || !impl.InOk(x) || max(m.Said, m.Acked) != len(m.Log)+1 {
					t.Fatalf("Note(%+v, %+v): true", m, x)
				}
				continue
			}
			wantNote(t, m, x, m, false)
		}
	}
	// of no log Said 1, and Acked 1, each with what can come in
	if mended != 6 {
		t.Errorf("%d are one with one more", mended)
	}
}

func TestReady(t *testing.T) {
	log := logOf(5, 1)
	for _, c := range []struct {
		m    impl.Minder
		pair int
		want bool
	}{
		// without a pair it is as soon as it came
		{impl.Minder{Up: true, Life: 1, Epoch: 1, Log: log}, 0, true}, {impl.Minder{Up: true, Life: 1, Epoch: 100000, Log: log, Said: 4}, 0, true}, {impl.Minder{Up: true, Life: 1, Epoch: 1, Log: log, Said: 5}, 0, false},
		{impl.Minder{Up: true, Life: 1, Epoch: 1}, 0, false}, {impl.Minder{Up: true, Epoch: 1, Log: log, Said: 3, Acked: 1, AckLife: 4}, 0, true}, {impl.Minder{Up: true, Epoch: 1, Log: log, Said: 3, Acked: 3, AckLife: 4}, 0, true},
		// who does not mind, or does not run, says nothing
		{impl.Minder{Up: true, Life: 1, Log: log}, 0, false}, {impl.Minder{Up: true, Life: 1, Epoch: -1, Log: log}, 0, false}, {impl.Minder{Life: 1, Epoch: 1, Log: log}, 0, false}, {impl.Minder{Life: 1}, 0, false}, {impl.Minder{}, 0, false},
		{impl.Minder{Up: true, Life: 1, Log: log, Acked: 5, AckLife: 2}, 2, false}, {impl.Minder{Life: 1, Epoch: 1, Log: log, Acked: 5, AckLife: 2}, 2, false},
		// with one it is once that has it
		{impl.Minder{Up: true, Life: 1, Epoch: 1, Log: log, AckLife: 2}, 2, false}, {impl.Minder{Up: true, Life: 1, Epoch: 1, Log: log, Acked: 1, AckLife: 2}, 2, true}, {impl.Minder{Up: true, Life: 1, Epoch: 1, Log: log, Acked: 5, AckLife: 2}, 2, true},
		{impl.Minder{Up: true, Life: 1, Epoch: 1, Log: log, Said: 3, Acked: 2, AckLife: 2}, 2, false}, {impl.Minder{Up: true, Life: 1, Epoch: 1, Log: log, Said: 3, Acked: 3, AckLife: 2}, 2, false}, {impl.Minder{Up: true, Life: 1, Epoch: 1, Log: log, Said: 3, Acked: 4, AckLife: 2}, 2, true},
		{impl.Minder{Up: true, Life: 1, Epoch: 1, Log: log, Said: 5, Acked: 5, AckLife: 2}, 2, false}, {impl.Minder{Up: true, Life: 1, Epoch: 1, Log: log, Said: 4, Acked: 5, AckLife: 100000}, 100000, true},
		// in that life of it, and no other one
		{impl.Minder{Up: true, Life: 1, Epoch: 1, Log: log, Acked: 5, AckLife: 2}, 1, false}, {impl.Minder{Up: true, Life: 1, Epoch: 1, Log: log, Acked: 5, AckLife: 2}, 3, false}, {impl.Minder{Up: true, Life: 1, Epoch: 1, Log: log, Acked: 5}, 1, false},
		{impl.Minder{Up: true, Life: 1, Epoch: 1, Log: log, Acked: 5, AckLife: 2}, -2, false}, {impl.Minder{Up: true, Life: 1, Epoch: 1, Log: log, Acked: 5, AckLife: 2}, math.MaxInt, false}, {impl.Minder{Up: true, Life: 1, Epoch: 1, Log: log, Acked: 5, AckLife: 2}, math.MinInt, false}, {impl.Minder{Up: true, Life: 1, Epoch: 1, Log: log, Acked: 5, AckLife: 2}, 1<<32 + 2, false},
	} {
		wantReady(t, c.m, c.pair, c.want)
	}
}

func TestReadyAtItsEdges(t *testing.T) {
	for _, n := range edgeNumbers {
		m := impl.Minder{Up: true, Life: 1, Epoch: 1, Log: logOf(60, 1), Said: 30, Acked: 31, AckLife: 2}
		wantReady(t, minderBent(m, func(m *impl.Minder) { m.Epoch = n }), 2, n > 0)
		wantReady(t, minderBent(m, func(m *impl.Minder) { m.Acked = n }), 2, n > 30)
		wantReady(t, minderBent(m, func(m *impl.Minder) { m.Acked = n }), 0, true)
		wantReady(t, minderBent(m, func(m *impl.Minder) { m.AckLife = n }), 2, n == 2)
		wantReady(t, minderBent(m, func(m *impl.Minder) { m.AckLife = n }), 0, true)
		wantReady(t, minderBent(m, func(m *impl.Minder) { m.Said, m.Acked = n, 100 }), 0, n < 60)
		wantReady(t, minderBent(m, func(m *impl.Minder) { m.Said, m.Acked = n, 100 }), 2, n < 60)
		wantReady(t, m, n, n == 0 || n == 2)
		// which time it runs itself counts for nothing
		wantReady(t, minderBent(m, func(m *impl.Minder) { m.Life = n }), 2, true)
	}
}

// elsewhere is the same log, in another place, with other things in the room behind it.
func elsewhere(log []impl.In) []impl.In {
	return slices.Concat(log, []impl.In{tickIn(), linkIn(0, false), {Kind: 77}})[:len(log)]
}

// saidOf is what is said to each of a log, place by place.
func saidOf(id int, ports int, log []impl.In) [][]impl.Out {
	var all [][]impl.Out
	for n := range log {
		all = append(all, impl.Saying(id, ports, log, n))
	}
	return all
}

// eachBridge hands on bridges with what came to them.
func eachBridge(look func(id int, ports int, log []impl.In)) {
	look(5, 2, told().log)
	for seed := range 36 {
		id, ports := 1+seed%9, 1+seed/9%4
		look(id, ports, logOf(60, seed))
		look(id, ports, slices.Concat(upLog(ports), logOf(40, 100+seed)))
		look(id, ports, mixedLog(40, 200+seed))
	}
}

// Two that write down the same, each in its own life and as far as it is, make the same bridge of it and say the same, at each step.
func TestWhoHasTheSameLogSaysTheSame(t *testing.T) {
	eachBridge(func(id int, ports int, log []impl.In) {
		one, two := impl.Minder{Up: true, Life: 1, Epoch: 1}, impl.Minder{Up: true, Life: 2}
		b, _ := impl.BridgeNew(id, ports)
		for at, x := range log {
			was := one
			var noted, also bool
			one, noted = impl.Note(one, x)
			two, also = impl.Note(two, x)
			if noted != impl.InOk(x) || also != noted || !slices.Equal(one.Log, two.Log) {
				t.Fatalf("Note of %+v: %v %v, %+v %+v", x, noted, also, one.Log, two.Log)
			}
			if !noted {
				wantBridgeOf(t, id, ports, one.Log, impl.BridgeOf(id, ports, was.Log))
				continue
			}
			var said []impl.Out
			b, said = impl.React(b, x)
			last := len(one.Log) - 1
			for _, m := range []impl.Minder{one, two} {
				wantBridgeOf(t, id, ports, m.Log, b)
				wantSaying(t, id, ports, m.Log, last, said...)
				wantGates(t, impl.BridgeOf(id, ports, m.Log), plainGates(b)...)
			}
			// one is further on than the other one: that turns nothing
			one.Said, one.Acked, one.AckLife = len(one.Log), at%(len(one.Log)+1), 2
			if t.Failed() {
				t.FailNow()
			}
		}
	})
}

// From any of its beginnings on it is as all at once.
func TestFromAnyBeginningOn(t *testing.T) {
	eachBridge(func(id int, ports int, log []impl.In) {
		all := saidOf(id, ports, log)
		whole := impl.BridgeOf(id, ports, log)
		for begin := range len(log) + 1 {
			b := impl.BridgeOf(id, ports, log[:begin])
			for at := begin; at < len(log); at++ {
				next, said := impl.React(b, log[at])
				if !slices.Equal(said, all[at]) {
					t.Fatalf("bridge %d from %d on, place %d of %+v: %+v, want %+v", id, begin, at, log, said, all[at])
				}
				b = next
			}
			if !sameBridge(b, whole) {
				t.Fatalf("bridge %d from %d on, of %+v: %+v, want %+v", id, begin, log, b, whole)
			}
		}
	})
}

// What is said to one hangs on what came ahead of it, and on nothing behind it.
func TestWhatIsSaidStays(t *testing.T) {
	eachBridge(func(id int, ports int, log []impl.In) {
		all := saidOf(id, ports, log)
		for count := range len(log) + 1 {
			for n := range count {
				if n < count-2 && n != 0 {
					continue
				}
				wantSaying(t, id, ports, log[:count], n, all[n]...)
				wantSaying(t, id, ports, elsewhere(log[:count]), n, all[n]...)
			}
			wantBridgeOf(t, id, ports, elsewhere(log[:count]), impl.BridgeOf(id, ports, log[:count]))
		}
	})
}

// What was said of gates, from all shut on, is how they are.
func TestGatesAreAsWasSaid(t *testing.T) {
	turned := 0
	eachBridge(func(id int, ports int, log []impl.In) {
		gates := make([]bool, ports)
		for n := range log {
			for _, out := range impl.Saying(id, ports, log, n) {
				if out.Kind == impl.OuGate {
					gates[out.Port] = out.On
					turned++
				}
			}
			wantGates(t, impl.BridgeOf(id, ports, log[:n+1]), gates...)
		}
	})
	if turned < 300 {
		t.Errorf("only %d gates turned", turned)
	}
}

// Who reads the log from its bytes says the same; torn, it says what its beginning says.
func TestLogThatIsReadSaysTheSame(t *testing.T) {
	eachBridge(func(id int, ports int, log []impl.In) {
		log = slices.DeleteFunc(slices.Clone(log), func(x impl.In) bool { return !impl.InOk(x) })
		b := impl.AllBytes(log)
		read, _ := impl.AllOf(b)
		torn, _ := impl.AllOf(b[:len(b)-1])
		if len(torn) != len(log)-1 {
			t.Fatalf("%d of %d are read", len(torn), len(log))
		}
		wantBridgeOf(t, id, ports, read, impl.BridgeOf(id, ports, log))
		wantBridgeOf(t, id, ports, torn, impl.BridgeOf(id, ports, log[:len(torn)]))
		wantBridgeOf(t, id, ports, append(torn, log[len(torn)]), impl.BridgeOf(id, ports, log))
		for n, said := range saidOf(id, ports, log) {
			wantSaying(t, id, ports, read, n, said...)
		}
	})
}

// Bridges tell their own number, so who has another one does not say the same.
func TestWhatIsSaidHangsOnWhoSaysIt(t *testing.T) {
	for id := 1; id <= 9; id++ {
		for ports := 1; ports <= 4; ports++ {
			var said []impl.Out
			for port := range ports {
				said = append(said, gateOut(port, true))
			}
			for port := range ports {
				said = append(said, claimOut(port, vecOf(id, 0, id, port), 0))
			}
			log := upLog(4)
			wantSaying(t, id, ports, log, 7, said...)
			wantSaying(t, id, ports, log, 6, said[ports:]...)
			wantSaying(t, id, ports, log, 3)
		}
	}
}

// askMinder asks all of the chapter of m.
func askMinder(m impl.Minder) {
	impl.MinderOk(m)
	for _, x := range []impl.In{tickIn(), linkIn(1, true), claimIn(0, vecOf(1, 0, 1, 0), 0), {}, linkIn(4, true)} {
		impl.Note(m, x)
	}
	impl.Ready(m, 0)
	impl.Ready(m, m.AckLife)
	for _, ports := range []int{1, 4, 5} {
		impl.Gates(impl.BridgeOf(5, ports, m.Log))
		for n := -1; n <= len(m.Log); n += 1 + len(m.Log)/5 {
			impl.Saying(5, ports, m.Log, n)
		}
	}
}

func TestMinderWritesIntoNoArgument(t *testing.T) {
	// the room behind what is handed in is to stay as it is, too
	for seed := range 6 {
		wide := slices.Concat(logOf(60, seed), []impl.In{{}, {Kind: 77}, tickIn(), linkIn(0, false)})
		kept := slices.Clone(wide)
		for count := range len(wide) + 1 {
			for _, up := range []bool{false, true} {
				askMinder(impl.Minder{Up: up, Life: 1, Epoch: 1, Log: wide[:count], AckLife: 2})
				askMinder(impl.Minder{Up: up, Life: -1, Log: wide[:count], Said: count, Acked: count + 1})
				askMinder(impl.Minder{Up: up, Log: wide[:count]})
			}
			if !slices.Equal(wide, kept) {
				t.Fatalf("written into %d: %+v, was %+v", count, wide, kept)
			}
		}
	}
	for _, m := range slices.Concat(goodMinders(), bentMinders()[:200]) {
		kept := copyMinder(m)
		askMinder(m)
		if !sameMinder(m, kept) {
			t.Fatalf("written into: %+v, was %+v", m, kept)
		}
	}
	ports := []impl.Port{portFor(impl.RoDes, 0), {}, portFor(impl.RoAlt, 0), portFor(impl.RoRoot, 0), portFor(impl.RoDes, 2), {Open: true}}
	kept := slices.Clone(ports)
	for count := range ports {
		impl.Gates(impl.Bridge{Id: 5, Ports: ports[:count]})
	}
	if !slices.Equal(ports, kept) {
		t.Errorf("written into: %+v, was %+v", ports, kept)
	}
}

// wantOwnLog writes over what Note answered, and over what it was handed, and looks whether the other ones stay.
func wantOwnLog(t *testing.T, m impl.Minder, x impl.In) {
	t.Helper()
	kept := copyMinder(m)
	one, ok := impl.Note(m, x)
	two, _ := impl.Note(m, x)
	want := copyMinder(two)
	scrawl(one.Log, impl.In{Kind: 77})
	if !sameMinder(m, kept) || !sameMinder(two, want) {
		t.Fatalf("Note(%+v, %+v), %v, shares memory: %+v", kept, x, ok, two)
	}
	handed := copyMinder(m)
	three, _ := impl.Note(handed, x)
	scrawl(handed.Log, impl.In{Kind: 77})
	if !sameMinder(three, want) {
		t.Fatalf("what Note(%+v, %+v), %v, answered is now %+v", kept, x, ok, three)
	}
	// with room behind its log, too, where one more would find a place
	roomy := copyMinder(m)
	roomy.Log = append(slices.Grow(roomy.Log, 9), impl.In{Kind: 78}, impl.In{Kind: 79})[:len(m.Log)]
	four, _ := impl.Note(roomy, x)
	five, _ := impl.Note(roomy, tickIn())
	if behind := roomy.Log[:len(m.Log)+2]; behind[len(m.Log)].Kind != 78 || behind[len(m.Log)+1].Kind != 79 {
		t.Fatalf("written behind the log: %+v", behind)
	}
	scrawl(five.Log, impl.In{Kind: 77})
	scrawl(roomy.Log, impl.In{Kind: 77})
	if !sameMinder(four, want) {
		t.Fatalf("what Note(%+v, %+v), %v, answered is now %+v", kept, x, ok, four)
	}
}

func TestNoteSharesNoMemory(t *testing.T) {
	for _, m := range slices.Concat(goodMinders(), bentMinders()) {
		if len(m.Log) > 200 {
			continue
		}
		for _, x := range []impl.In{tickIn(), linkIn(1, true), {}} {
			wantOwnLog(t, m, x)
		}
	}
	// two go on from the same one, each its own way
	m := upMinder(told().log...)
	for range 9 {
		m, _ = impl.Note(m, tickIn())
		one, _ := impl.Note(m, linkIn(0, true))
		two, _ := impl.Note(m, linkIn(1, true))
		if last := len(m.Log); one.Log[last] != linkIn(0, true) || two.Log[last] != linkIn(1, true) {
			t.Fatalf("they share what is behind: %+v %+v", one.Log[last], two.Log[last])
		}
	}
}

func TestWhatIsMadeOfALogSharesNoMemory(t *testing.T) {
	eachBridge(func(id int, ports int, log []impl.In) {
		kept := slices.Clone(log)
		for n := range log {
			one, two := impl.Saying(id, ports, log, n), impl.Saying(id, ports, log, n)
			want := slices.Clone(two)
			scrawl(one, impl.Out{Kind: 77})
			b, c := impl.BridgeOf(id, ports, log[:n]), impl.BridgeOf(id, ports, log[:n])
			same := copyBridge(c)
			gates, more := impl.Gates(c), impl.Gates(c)
			open := slices.Clone(more)
			scribbleBridge(b, nil)
			scrawl(gates, true)
			if !slices.Equal(two, want) || !sameBridge(c, same) || !slices.Equal(more, open) || !slices.Equal(log, kept) {
				t.Fatalf("answers share memory: %+v %+v %v", two, c, more)
			}
			scribbleBridge(c, nil)
			if !slices.Equal(more, open) {
				t.Fatalf("Gates shares memory with its bridge: %v", more)
			}
			wantSaying(t, id, ports, log, n, want...)
		}
		handed := slices.Clone(log)
		b, said := impl.BridgeOf(id, ports, handed), impl.Saying(id, ports, handed, len(handed)-1)
		scrawl(handed, impl.In{Kind: 77})
		wantBridgeOf(t, id, ports, log, b)
		wantSaying(t, id, ports, log, len(log)-1, said...)
	})
	// of no such bridge, and of no place, too
	scrawl(impl.BridgeOf(0, 2, told().log).Ports, impl.Port{Wait: 77})
	scrawl(impl.Saying(5, 2, told().log, -1), impl.Out{Kind: 77})
	wantBridgeOf(t, 0, 2, told().log, impl.Bridge{})
	wantSaying(t, 5, 2, told().log, -1)
}

func FuzzMinder(f *testing.F) {
	f.Add(uint64(1), uint8(7), true, 1, 1, 3, 5, 2, 5, 2, 3, impl.InTick, 0)
	f.Add(uint64(2), uint8(60), true, 100000, 100000, 60, 60, 100000, 9, 4, 59, impl.InLink, 3)
	f.Add(uint64(3), uint8(0), false, 1, 0, 0, 0, 0, 1, 1, 0, impl.InClaim, 1)
	f.Add(uint64(4), uint8(61), true, -1, 0, 62, -1, 100001, 0, 5, -1, 0, 4)
	f.Fuzz(func(t *testing.T, seed uint64, count uint8, up bool, life int, epoch int, said int, acked int, other int, id int, ports int, n int, kind int, port int) {
		log := logOf(int(count)%64, int(seed))
		x := impl.In{Kind: kind, Port: port, Up: up}
		for _, m := range []impl.Minder{
			{Up: up, Life: life, Epoch: epoch, Log: log, Said: said, Acked: acked, AckLife: other},
			{Up: true, Life: life & 0xffff, Epoch: epoch & 0xffff, Log: log, Said: said & 63, Acked: acked & 63, AckLife: other & 0xffff},
			{Up: up, Life: life & 0xffff}, {Up: up, Epoch: epoch}, {Up: up, Said: said}, {Up: up, Acked: acked}, {Up: up, AckLife: other},
			{Up: true, Log: append(slices.Clone(log), x)},
		} {
			kept := copyMinder(m)
			wantMinderAsPlain(t, m)
			wantReady(t, m, n, plainReady(m, n))
			want, ok := plainNote(m, x)
			wantNote(t, m, x, want, ok)
			if !sameMinder(m, kept) {
				t.Errorf("was written into: %+v, was %+v", m, kept)
			}
		}
		mixed := append(slices.Clone(log), x, tickIn(), tickIn())
		for _, who := range [][2]int{{id, ports}, {1 + id&7, 1 + ports&3}} {
			_, all := plainTelling(who[0], who[1], mixed)
			wantLogAsPlain(t, who[0], who[1], mixed)
			if n < 0 || n >= len(mixed) {
				wantSaying(t, who[0], who[1], mixed, n)
			} else {
				wantSaying(t, who[0], who[1], mixed, n, all[n]...)
			}
		}
	})
}
