package tests

import (
	"math"
	"slices"
	"testing"

	"loop.example/g00470/impl"
)

// inNet is of a port that is in one net alone.
func inNet(net int) impl.Member { return impl.Member{Own: net, In: []int{net}} }

// inAll is of a port that is in all nets.
func inAll(own int) impl.Member { return impl.Member{Own: own, In: []int{1, 2, 3, 4}} }

// openOf tells of each port whether its letter is o.
func openOf(letters string) []bool {
	var list []bool
	for _, c := range letters {
		list = append(list, c == 'o')
	}
	return list
}

// cardOf makes a card whose ports are open as the letters say, each in net 1 alone.
func cardOf(letters string, table rows) impl.Card {
	return impl.Card{Open: openOf(letters), Members: slices.Repeat([]impl.Member{inNet(1)}, len(letters)), Table: table.heard()}
}

// mixedCard has ports of unlike nets, one of them shut.
func mixedCard(table rows) impl.Card {
	return impl.Card{Open: openOf("ooso"), Members: []impl.Member{inNet(1), inAll(2), inNet(1), {Own: 3, In: []int{1, 3}}}, Table: table.heard()}
}

func goodCards() []impl.Card {
	list := []impl.Card{mixedCard(nil), mixedCard(rows{{4, 1, 0, 5}, {5, 1, 1, 20}, {6, 1, 2, 3}, {4, 2, 1, 9}, {7, 3, 3, 1}})}
	for ports := 1; ports <= impl.MaxPorts; ports++ {
		for marks := range 1 << ports {
			c := impl.Card{Table: sparseTable()[marks%13:]}
			for port := range ports {
				c.Open = append(c.Open, marks>>port&1 == 1)
				c.Members = append(c.Members, goodMembers()[(marks*5+port*11)%32])
			}
			list = append(list, c)
		}
	}
	// what was heard where there is no such port is a table all the same
	return append(list, cardOf("oo", rows{{4, 1, 3, 5}}), cardOf("o", tableRows(12)))
}

func tableRows(n int) rows {
	var r rows
	for _, h := range tableOf(n) {
		r = append(r, [4]int{h.Addr, h.Vlan, h.Port, h.Left})
	}
	return r
}

// bentCards are no cards, each for one reason or several, though they have ports.
func bentCards() []impl.Card {
	one := inNet(1)
	list := []impl.Card{
		// members fewer or more than ports
		{Open: openOf("oo"), Members: []impl.Member{one}}, {Open: openOf("oo"), Members: []impl.Member{one, one, one}},
		{Open: openOf("oooo"), Members: []impl.Member{one, one, one}}, {Open: openOf("o"), Members: []impl.Member{one, one, one, one}}, {Open: openOf("o")},
		{Open: openOf("ooo"), Members: slices.Repeat([]impl.Member{one}, 1000)},
		// more ports than there can be
		cardOf("ooooo", nil), cardOf("sssss", nil), cardOf("oooooooooooo", rows{{4, 1, 1, 5}}),
	}
	// one that is of no port, in each place
	for _, m := range bentMembers() {
		for at := range 3 {
			c := cardOf("ooo", rows{{4, 1, 1, 5}})
			c.Members[at] = m
			list = append(list, c)
		}
	}
	for _, table := range bentTables() {
		list = append(list, impl.Card{Open: openOf("ooso"), Members: []impl.Member{one, one, one, one}, Table: table})
	}
	return list
}

// emptyCards have no port at all.
func emptyCards() []impl.Card {
	return []impl.Card{{}, {Open: []bool{}, Members: []impl.Member{}}, {Members: []impl.Member{inNet(1)}}, {Table: rows{{4, 1, 1, 5}}.heard()}}
}

func framesOfCards() []impl.Frame {
	list := slices.Concat(framesOfNets(), badFrames())
	for to := range 10 {
		for vlan := range 5 {
			list = append(list, impl.Frame{To: to, From: 4, Vlan: vlan, Load: []byte("hi")}, impl.Frame{To: to, From: to%9 + 1, Vlan: vlan})
		}
	}
	return list
}

var portsOfCards = []int{math.MinInt, -4, -1, 0, 1, 2, 3, 4, 5, math.MaxInt}

func copyCard(c impl.Card) impl.Card {
	next := impl.Card{Open: slices.Clone(c.Open), Table: slices.Clone(c.Table)}
	for _, m := range c.Members {
		next.Members = append(next.Members, impl.Member{Own: m.Own, In: slices.Clone(m.In)})
	}
	return next
}

func sameMember(a impl.Member, b impl.Member) bool { return a.Own == b.Own && slices.Equal(a.In, b.In) }

func sameCard(a impl.Card, b impl.Card) bool {
	return slices.Equal(a.Open, b.Open) && slices.EqualFunc(a.Members, b.Members, sameMember) && slices.Equal(a.Table, b.Table)
}

func sameOut(a impl.Out1, b impl.Out1) bool { return a.Port == b.Port && sameFrame(a.Frame, b.Frame) }

// plainCardOk, and plainPass and plainGate, say again what the chapter says, port by port.
func plainCardOk(c impl.Card) bool {
	for _, m := range c.Members {
		if !plainMemberOk(m) {
			return false
		}
	}
	return len(c.Open) > 0 && len(c.Open) < 5 && len(c.Open) == len(c.Members) && plainTableOk(c.Table)
}

func plainPass(c impl.Card, port int, f impl.Frame) (impl.Card, []impl.Out1) {
	if !plainCardOk(c) || port < 0 || port >= len(c.Open) || !c.Open[port] {
		return c, nil
	}
	in, ok := plainInside(c.Members[port], f)
	if !ok {
		return c, nil
	}
	goals := []int{0, 1, 2, 3}
	for _, h := range c.Table {
		if h.Addr == in.To && h.Vlan == in.Vlan {
			goals = []int{h.Port}
		}
	}
	var list []impl.Out1
	for _, to := range goals {
		if to == port || to >= len(c.Open) || !c.Open[to] {
			continue
		}
		if out, ok := plainOutside(c.Members[to], in); ok {
			list = append(list, impl.Out1{Port: to, Frame: out})
		}
	}
	return impl.Card{Open: c.Open, Members: c.Members, Table: plainHear(c.Table, in.From, in.Vlan, port)}, list
}

func plainGate(c impl.Card, port int, on bool) impl.Card {
	next := copyCard(c)
	if !plainCardOk(c) || port < 0 || port >= len(c.Open) || c.Open[port] == on {
		return next
	}
	next.Open[port] = on
	next.Table = slices.DeleteFunc(next.Table, func(h impl.Heard) bool { return h.Port == port })
	return next
}

func wantPass(t *testing.T, c impl.Card, port int, f impl.Frame, want impl.Card, outs []impl.Out1) {
	t.Helper()
	next, got := impl.Pass(c, port, f)
	if !sameCard(next, want) {
		t.Errorf("Pass(%v, %d, %v): the card %v, want %v", c, port, f, next, want)
	}
	if !slices.EqualFunc(got, outs, sameOut) {
		t.Errorf("Pass(%v, %d, %v): %v, want %v", c, port, f, got, outs)
	}
}

// wantPorts asks by which ports it goes, and what is known then.
func wantPorts(t *testing.T, c impl.Card, port int, f impl.Frame, ports []int, table rows) {
	t.Helper()
	next, got := impl.Pass(c, port, f)
	var to []int
	for _, o := range got {
		to = append(to, o.Port)
	}
	if !slices.Equal(to, ports) {
		t.Errorf("Pass(%v, %d, %v): to %v, want %v", c, port, f, to, ports)
	}
	if !slices.Equal(next.Table, table.heard()) {
		t.Errorf("Pass(%v, %d, %v): knows %v, want %v", c, port, f, next.Table, table)
	}
}

func wantGate(t *testing.T, c impl.Card, port int, on bool, want impl.Card) {
	t.Helper()
	if got := impl.Gate(c, port, on); !sameCard(got, want) {
		t.Errorf("Gate(%v, %d, %v): %v, want %v", c, port, on, got, want)
	}
}

func TestCardOk(t *testing.T) {
	for _, c := range goodCards() {
		if !impl.CardOk(c) {
			t.Errorf("CardOk(%v): false", c)
		}
	}
	for _, c := range append(bentCards(), emptyCards()...) {
		if impl.CardOk(c) {
			t.Errorf("CardOk(%v): true", c)
		}
	}
	for _, m := range goodMembers() {
		if !impl.CardOk(impl.Card{Open: []bool{false}, Members: []impl.Member{m}}) {
			t.Errorf("a card of %v alone is refused", m)
		}
	}
	for _, table := range goodTables() {
		if c := (impl.Card{Open: openOf("osos"), Members: slices.Repeat([]impl.Member{inAll(4)}, 4), Table: table}); !impl.CardOk(c) {
			t.Errorf("a card with the table %v is refused", table)
		}
	}
}

func TestCardOkOfSoManyPorts(t *testing.T) {
	for ports := range 8 {
		for members := range 8 {
			for _, open := range []bool{false, true} {
				c := impl.Card{Open: slices.Repeat([]bool{open}, ports), Members: slices.Repeat([]impl.Member{inNet(1)}, members)}
				if got := impl.CardOk(c); got != (ports >= 1 && ports <= 4 && members == ports) {
					t.Errorf("of %d ports and %d members: %v", ports, members, got)
				}
			}
		}
	}
}

func TestPassToAll(t *testing.T) {
	c := mixedCard(nil)
	load := []byte("hi")
	heard := func(addr int, vlan int, port int) impl.Card { return mixedCard(rows{{addr, vlan, port, 20}}) }
	// port 2 is shut; port 1 has net 1 not as its own, and says it
	wantPass(t, c, 0, impl.Frame{From: 4, Load: load}, heard(4, 1, 0), []impl.Out1{{Port: 1, Frame: impl.Frame{From: 4, Vlan: 1, Load: load}}, {Port: 3, Frame: impl.Frame{From: 4, Vlan: 1, Load: load}}})
	wantPass(t, c, 0, impl.Frame{From: 4, Vlan: 1}, heard(4, 1, 0), []impl.Out1{{Port: 1, Frame: impl.Frame{From: 4, Vlan: 1}}, {Port: 3, Frame: impl.Frame{From: 4, Vlan: 1}}})
	// port 0 has it as its own, and says none
	wantPass(t, c, 1, impl.Frame{From: 9, Vlan: 1, Load: load}, heard(9, 1, 1), []impl.Out1{{Port: 0, Frame: impl.Frame{From: 9, Load: load}}, {Port: 3, Frame: impl.Frame{From: 9, Vlan: 1, Load: load}}})
	wantPass(t, c, 1, impl.Frame{From: 9, Vlan: 3}, heard(9, 3, 1), []impl.Out1{{Port: 3, Frame: impl.Frame{From: 9}}})
	wantPass(t, c, 3, impl.Frame{From: 1}, heard(1, 3, 3), []impl.Out1{{Port: 1, Frame: impl.Frame{From: 1, Vlan: 3}}})
	wantPass(t, c, 3, impl.Frame{From: 1, Vlan: 1}, heard(1, 1, 3), []impl.Out1{{Port: 0, Frame: impl.Frame{From: 1}}, {Port: 1, Frame: impl.Frame{From: 1, Vlan: 1}}})
	// nobody else is in net 2, nor in net 4: it is heard all the same
	wantPass(t, c, 1, impl.Frame{From: 5}, heard(5, 2, 1), nil)
	wantPass(t, c, 1, impl.Frame{From: 5, Vlan: 4}, heard(5, 4, 1), nil)
	// one to somebody who is not known goes as one to all does
	wantPass(t, c, 0, impl.Frame{To: 5, From: 4}, heard(4, 1, 0), []impl.Out1{{Port: 1, Frame: impl.Frame{To: 5, From: 4, Vlan: 1}}, {Port: 3, Frame: impl.Frame{To: 5, From: 4, Vlan: 1}}})
	// one port alone
	wantPorts(t, cardOf("o", nil), 0, impl.Frame{From: 4}, nil, rows{{4, 1, 0, 20}})
}

func TestPassToWhoIsKnown(t *testing.T) {
	known := rows{{5, 1, 2, 7}}
	both := rows{{4, 1, 0, 20}, {5, 1, 2, 7}}
	for port := range 4 {
		heard := rows{{4, 1, port, 20}, {5, 1, 2, 7}}
		if port != 2 {
			wantPorts(t, cardOf("oooo", known), port, impl.Frame{To: 5, From: 4}, []int{2}, heard)
		}
		// to all it goes, whoever is known
		others := slices.DeleteFunc([]int{0, 1, 2, 3}, func(p int) bool { return p == port })
		wantPorts(t, cardOf("oooo", known), port, impl.Frame{To: 0, From: 4}, others, heard)
		wantPorts(t, cardOf("oooo", known), port, impl.Frame{To: 6, From: 4}, others, heard)
	}
	// known where it came in: it is there already
	wantPorts(t, cardOf("oooo", known), 2, impl.Frame{To: 5, From: 4}, nil, rows{{4, 1, 2, 20}, {5, 1, 2, 7}})
	// known at a port that is shut, and at one that is not there
	wantPorts(t, cardOf("ooso", known), 0, impl.Frame{To: 5, From: 4}, nil, both)
	wantPorts(t, cardOf("oo", known), 0, impl.Frame{To: 5, From: 4}, nil, both)
	// known at a port that is in that net no more
	c := cardOf("oooo", known)
	c.Members[2] = inNet(2)
	wantPorts(t, c, 0, impl.Frame{To: 5, From: 4}, nil, both)
	// where it is known it goes as Outside has it
	c.Members[2] = impl.Member{Own: 2, In: []int{1, 2}}
	wantPass(t, c, 0, impl.Frame{To: 5, From: 4}, impl.Card{Open: c.Open, Members: c.Members, Table: both.heard()}, []impl.Out1{{Port: 2, Frame: impl.Frame{To: 5, From: 4, Vlan: 1}}})
}

func TestPassToWhoIsKnownInAnotherNet(t *testing.T) {
	c := impl.Card{Open: openOf("oooo"), Members: slices.Repeat([]impl.Member{inAll(1)}, 4), Table: rows{{5, 1, 1, 7}, {5, 3, 2, 8}}.heard()}
	for _, want := range []struct {
		vlan  int
		ports []int
		table rows
	}{
		{0, []int{1}, rows{{4, 1, 0, 20}, {5, 1, 1, 7}, {5, 3, 2, 8}}},
		{1, []int{1}, rows{{4, 1, 0, 20}, {5, 1, 1, 7}, {5, 3, 2, 8}}},
		{2, []int{1, 2, 3}, rows{{5, 1, 1, 7}, {4, 2, 0, 20}, {5, 3, 2, 8}}},
		{3, []int{2}, rows{{5, 1, 1, 7}, {4, 3, 0, 20}, {5, 3, 2, 8}}},
		{4, []int{1, 2, 3}, rows{{5, 1, 1, 7}, {5, 3, 2, 8}, {4, 4, 0, 20}}},
	} {
		wantPorts(t, c, 0, impl.Frame{To: 5, From: 4, Vlan: want.vlan}, want.ports, want.table)
	}
	// one that says no net is of the net of its port, in what is known and in what is heard
	c.Members[0] = inAll(3)
	wantPorts(t, c, 0, impl.Frame{To: 5, From: 4}, []int{2}, rows{{5, 1, 1, 7}, {4, 3, 0, 20}, {5, 3, 2, 8}})
}

func TestPassByWhatWasKnownAhead(t *testing.T) {
	// to itself: not known yet, so it goes to all; then it is known where it comes in, and goes nowhere
	itself := impl.Frame{To: 4, From: 4}
	wantPorts(t, cardOf("oooo", nil), 1, itself, []int{0, 2, 3}, rows{{4, 1, 1, 20}})
	wantPorts(t, cardOf("oooo", rows{{4, 1, 1, 7}}), 1, itself, nil, rows{{4, 1, 1, 20}})
	// to itself, heard at another port than before: it goes where it was
	wantPorts(t, cardOf("oooo", rows{{4, 1, 3, 7}}), 1, itself, []int{3}, rows{{4, 1, 1, 20}})
	wantPorts(t, cardOf("oooo", rows{{4, 1, 0, 7}}), 1, itself, []int{0}, rows{{4, 1, 1, 20}})
	wantPorts(t, cardOf("ooos", rows{{4, 1, 3, 7}}), 1, itself, nil, rows{{4, 1, 1, 20}})
	// in another net it was not known
	wantPorts(t, cardOf("oooo", rows{{4, 2, 1, 7}}), 1, itself, []int{0, 2, 3}, rows{{4, 1, 1, 20}, {4, 2, 1, 7}})
	// heard again, or elsewhere: where it is known turns, where the frame goes does not
	wantPorts(t, cardOf("oooo", rows{{4, 1, 1, 7}, {5, 1, 2, 7}}), 1, impl.Frame{To: 5, From: 4}, []int{2}, rows{{4, 1, 1, 20}, {5, 1, 2, 7}})
	wantPorts(t, cardOf("oooo", rows{{4, 1, 3, 7}, {5, 1, 2, 7}}), 1, impl.Frame{To: 5, From: 4}, []int{2}, rows{{4, 1, 1, 20}, {5, 1, 2, 7}})
}

func TestPassBackAndForth(t *testing.T) {
	c := cardOf("oooo", nil)
	c, outs := impl.Pass(c, 0, impl.Frame{To: 5, From: 4})
	if len(outs) != 3 {
		t.Error("not to all", outs)
	}
	c, outs = impl.Pass(c, 3, impl.Frame{To: 4, From: 5})
	if len(outs) != 1 || outs[0].Port != 0 {
		t.Error("not back", outs)
	}
	c, outs = impl.Pass(c, 0, impl.Frame{To: 5, From: 4})
	if len(outs) != 1 || outs[0].Port != 3 {
		t.Error("not forth", outs)
	}
	// 5 went to port 2: what is for it goes there as soon as it was heard
	c, _ = impl.Pass(c, 2, impl.Frame{From: 5})
	c, outs = impl.Pass(c, 0, impl.Frame{To: 5, From: 4})
	if len(outs) != 1 || outs[0].Port != 2 {
		t.Error("not where it went", outs)
	}
	// the port is shut and open again: what was heard there is not known
	c = impl.Gate(impl.Gate(c, 2, false), 2, true)
	if _, outs = impl.Pass(c, 0, impl.Frame{To: 5, From: 4}); len(outs) != 3 {
		t.Error("not to all again", outs)
	}
}

func TestPassOfFullTable(t *testing.T) {
	c := impl.Card{Open: openOf("ooo"), Members: slices.Repeat([]impl.Member{inAll(1)}, 3), Table: sparseTable()}
	// one more is not heard, but goes
	wantPass(t, c, 0, impl.Frame{From: 9}, c, []impl.Out1{{Port: 1, Frame: impl.Frame{From: 9}}, {Port: 2, Frame: impl.Frame{From: 9}}})
	// one that was heard before is heard again
	want := copyCard(c)
	want.Table[0] = impl.Heard{Addr: 2, Vlan: 1, Port: 0, Left: 20}
	wantPass(t, c, 0, impl.Frame{From: 2}, want, []impl.Out1{{Port: 1, Frame: impl.Frame{From: 2}}, {Port: 2, Frame: impl.Frame{From: 2}}})
}

func TestNothingComesInAtWhatIsShut(t *testing.T) {
	for _, c := range slices.Concat(goodCards(), bentCards(), emptyCards()) {
		for _, port := range portsOfCards {
			if impl.CardOk(c) && port >= 0 && port < len(c.Open) && c.Open[port] {
				continue
			}
			for _, f := range framesOfCards() {
				wantPass(t, c, port, f, c, nil)
			}
		}
	}
}

func TestNothingComesInOfWhatIsNoFrame(t *testing.T) {
	c := mixedCard(rows{{4, 1, 1, 7}})
	for port := range 4 {
		for _, f := range badFrames() {
			wantPass(t, c, port, f, c, nil)
		}
		for _, f := range []impl.Frame{{To: 10, From: 1}, {To: -1, From: 1}, {From: 0}, {From: 10}, {To: 4, From: 1, Load: loadOf(31)}, {From: 1, Vlan: 5}, {From: 1, Vlan: -1}} {
			wantPass(t, c, port, f, c, nil)
		}
	}
	// of a net that the port is not in
	for _, f := range []impl.Frame{{From: 1, Vlan: 2}, {From: 1, Vlan: 3}, {To: 4, From: 1, Vlan: 4}} {
		wantPass(t, c, 0, f, c, nil)
	}
	wantPass(t, c, 3, impl.Frame{From: 1, Vlan: 2}, c, nil)
	wantPass(t, c, 3, impl.Frame{From: 1, Vlan: 4}, c, nil)
}

func TestNothingGoesOutAtWhatIsShut(t *testing.T) {
	for _, c := range goodCards() {
		for port := range c.Open {
			for _, f := range framesOfCards() {
				_, outs := impl.Pass(c, port, f)
				last := -1
				for _, o := range outs {
					if o.Port <= last || o.Port >= len(c.Open) || o.Port == port || !c.Open[o.Port] {
						t.Fatalf("Pass(%v, %d, %v): %v", c, port, f, outs)
					}
					last = o.Port
				}
			}
		}
	}
	// each other port shut, one by one and all of them, whoever is known there
	for marks := range 8 {
		for known := range 4 {
			open := []bool{true, marks&1 == 1, marks&2 == 2, marks&4 == 4}
			c := impl.Card{Open: open, Members: slices.Repeat([]impl.Member{inNet(1)}, 4), Table: rows{{5, 1, known, 7}}.heard()}
			var all, one []int
			for port := 1; port < 4; port++ {
				if open[port] {
					all = append(all, port)
				}
			}
			if known > 0 && open[known] {
				one = []int{known}
			}
			wantPorts(t, c, 0, impl.Frame{From: 4}, all, rows{{4, 1, 0, 20}, {5, 1, known, 7}})
			wantPorts(t, c, 0, impl.Frame{To: 5, From: 4}, one, rows{{4, 1, 0, 20}, {5, 1, known, 7}})
		}
	}
}

func TestPassAsTheChapterSays(t *testing.T) {
	for _, c := range slices.Concat(goodCards(), bentCards(), emptyCards()) {
		for _, port := range portsOfCards {
			for _, f := range framesOfCards() {
				want, outs := plainPass(c, port, f)
				wantPass(t, c, port, f, want, outs)
				if next, _ := impl.Pass(c, port, f); impl.CardOk(next) != plainCardOk(c) {
					t.Fatalf("Pass(%v, %d, %v): %v", c, port, f, next)
				}
			}
		}
	}
}

func TestGate(t *testing.T) {
	table := rows{{4, 1, 0, 5}, {5, 1, 1, 20}, {6, 1, 2, 3}, {4, 2, 0, 9}, {7, 3, 3, 1}}
	c := cardOf("ooso", table)
	// on already, or off already
	for port, on := range c.Open {
		wantGate(t, c, port, on, c)
	}
	// it turns: what was heard there is forgotten, in each net, and nothing else
	wantGate(t, c, 0, false, cardOf("soso", rows{{5, 1, 1, 20}, {6, 1, 2, 3}, {7, 3, 3, 1}}))
	wantGate(t, c, 1, false, cardOf("osso", rows{{4, 1, 0, 5}, {6, 1, 2, 3}, {4, 2, 0, 9}, {7, 3, 3, 1}}))
	wantGate(t, c, 2, true, cardOf("oooo", rows{{4, 1, 0, 5}, {5, 1, 1, 20}, {4, 2, 0, 9}, {7, 3, 3, 1}}))
	wantGate(t, c, 3, false, cardOf("ooss", rows{{4, 1, 0, 5}, {5, 1, 1, 20}, {6, 1, 2, 3}, {4, 2, 0, 9}}))
	// no such port, also where something was heard there
	for _, on := range []bool{false, true} {
		for _, port := range []int{-1, 4, 5, math.MaxInt, math.MinInt} {
			wantGate(t, c, port, on, c)
		}
		two := cardOf("os", table)
		wantGate(t, two, 2, on, two)
		wantGate(t, two, 3, on, two)
	}
	// one port, nothing heard
	wantGate(t, cardOf("o", nil), 0, false, cardOf("s", nil))
	wantGate(t, cardOf("s", nil), 0, true, cardOf("o", nil))
}

func TestGateOfNoCard(t *testing.T) {
	for _, c := range append(bentCards(), emptyCards()...) {
		for _, port := range portsOfCards {
			wantGate(t, c, port, true, c)
			wantGate(t, c, port, false, c)
		}
	}
}

func TestGateAsTheChapterSays(t *testing.T) {
	for _, c := range slices.Concat(goodCards(), bentCards(), emptyCards()) {
		for _, port := range portsOfCards {
			for _, on := range []bool{false, true} {
				want := plainGate(c, port, on)
				wantGate(t, c, port, on, want)
				next := impl.Gate(c, port, on)
				wantGate(t, next, port, on, next)
				if impl.CardOk(next) != plainCardOk(c) {
					t.Fatalf("Gate(%v, %d, %v): %v", c, port, on, next)
				}
			}
		}
	}
}

// scribble writes over all of a card and of what went out, and behind them.
func scribble(c impl.Card, outs []impl.Out1) {
	for i := range c.Open {
		c.Open[i] = !c.Open[i]
	}
	for i := range c.Members {
		for j := range c.Members[i].In {
			c.Members[i].In[j] = 77
		}
		_ = append(c.Members[i].In, 77)
		c.Members[i] = impl.Member{Own: 77}
	}
	for i := range c.Table {
		c.Table[i] = impl.Heard{Addr: 77}
	}
	for i := range outs {
		for j := range outs[i].Frame.Load {
			outs[i].Frame.Load[j] = 77
		}
		_ = append(outs[i].Frame.Load, 77)
		outs[i] = impl.Out1{Port: 77}
	}
	_, _, _, _ = append(c.Open, true), append(c.Members, impl.Member{}), append(c.Table, impl.Heard{}), append(outs, impl.Out1{})
}

func TestCardSharesNoMemory(t *testing.T) {
	for _, c := range slices.Concat(goodCards(), bentCards(), emptyCards()) {
		kept := copyCard(c)
		for _, port := range portsOfCards {
			for _, f := range []impl.Frame{{From: 4, Load: []byte("hi")}, {To: 5, From: 4, Vlan: 1, Load: []byte("hi")}, {From: 0, Load: []byte("hi")}} {
				scribble(impl.Pass(c, port, f))
				if string(f.Load) != "hi" {
					t.Fatalf("the load is %q", f.Load)
				}
			}
			scribble(impl.Gate(c, port, true), nil)
			scribble(impl.Gate(c, port, false), nil)
		}
		if !sameCard(c, kept) {
			t.Fatalf("was written into: %v, was %v", c, kept)
		}
	}
}

// No two lists of one answer are one, also where those that were handed in are.
func TestCardSharesNoMemoryWithItself(t *testing.T) {
	in := []int{1, 2}
	one := impl.Member{Own: 1, In: in}
	for _, c := range []impl.Card{
		{Open: openOf("oooo"), Members: []impl.Member{one, one, one, one}},
		{Open: openOf("oo"), Members: []impl.Member{one, one, one}},
	} {
		next, outs := impl.Pass(c, 0, impl.Frame{From: 4, Load: []byte("hi")})
		for _, card := range []impl.Card{next, impl.Gate(c, 1, true), impl.Gate(c, 1, false), impl.Gate(c, 9, true)} {
			for i := range card.Members {
				card.Members[i].In[0] = i
			}
			for i := range card.Members {
				if card.Members[i].In[0] != i {
					t.Errorf("members share what they are in: %v", card.Members)
				}
			}
		}
		for i := range outs {
			outs[i].Frame.Load[0] = byte(i)
		}
		for i := range outs {
			if outs[i].Frame.Load[0] != byte(i) {
				t.Errorf("frames share a load: %v", outs)
			}
		}
	}
	if !slices.Equal(in, []int{1, 2}) {
		t.Errorf("was written into: %v", in)
	}
}

func TestCardWritesIntoNoArgument(t *testing.T) {
	// the room behind what is handed in is to stay as it is, too
	open := openOf("oosoos")
	members := []impl.Member{inNet(1), inAll(2), inNet(1), inAll(1), inNet(3), inNet(4)}
	table := append(tableOf(12), tableOf(3)...)
	load := loadOf(40)
	kept := copyCard(impl.Card{Open: open, Members: members, Table: table})
	was := slices.Clone(load)
	for ports := range 6 {
		for heard := range table {
			c := impl.Card{Open: open[:ports], Members: members[:ports], Table: table[:heard]}
			impl.CardOk(c)
			for port := -1; port < 6; port++ {
				impl.Pass(c, port, impl.Frame{From: 9, Load: load[:heard]})
				impl.Pass(c, port, impl.Frame{To: 2, From: 1, Load: load[:heard]})
				impl.Pass(c, port, impl.Frame{To: 2, From: 8, Vlan: 4, Load: load[:31]})
				impl.Gate(c, port, true)
				impl.Gate(c, port, false)
			}
		}
	}
	if !sameCard(impl.Card{Open: open, Members: members, Table: table}, kept) || !slices.Equal(load, was) {
		t.Errorf("written into: %v %v %v %x", open, members, table, load)
	}
}

// cardFrom makes a card of any bytes, most often one that is right, or wrong by one.
func cardFrom(open []byte, members []byte, table []byte) impl.Card {
	var c impl.Card
	for _, b := range open {
		c.Open = append(c.Open, b%2 == 1)
	}
	for _, b := range members {
		c.Members = append(c.Members, impl.Member{Own: int(b >> 4 & 7), In: netLists()[b%16]})
	}
	c.Table = heardFrom(table)
	return c
}

func FuzzCard(f *testing.F) {
	f.Add([]byte{1, 1, 0, 1}, []byte{0x11, 0x23, 0x11, 0x35}, []byte("\x11\x29\x13\x31\x21\x19"), 0, 3, 4, 0, []byte("hi"))
	f.Add([]byte{1, 1}, []byte{0x11, 0x11}, []byte{}, 1, 0, 9, 1, []byte{})
	f.Add([]byte{}, []byte{}, []byte{}, 0, 0, 0, 0, []byte{})
	f.Fuzz(func(t *testing.T, open []byte, members []byte, table []byte, port int, to int, from int, vlan int, load []byte) {
		c := cardFrom(open, members, table)
		if impl.CardOk(c) != plainCardOk(c) {
			t.Errorf("CardOk(%v): %v", c, impl.CardOk(c))
		}
		x := impl.Frame{To: to, From: from, Vlan: vlan, Load: load}
		want, outs := plainPass(c, port, x)
		wantPass(t, c, port, x, want, outs)
		wantGate(t, c, port, true, plainGate(c, port, true))
		wantGate(t, c, port, false, plainGate(c, port, false))
	})
}
