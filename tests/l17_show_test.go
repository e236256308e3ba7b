package tests

import (
	"fmt"
	"math"
	"slices"
	"strings"
	"testing"

	"loop.example/g00470/impl"
)

const (
	leastText    = "-9223372036854775808"
	greatestText = "9223372036854775807"
)

// plainPortText, and the plain ones behind it, say again what the chapter says.
func plainPortText(p impl.Port) string {
	role, state, claimed := "none", "shut", "-"
	if p.Role >= 0 && p.Role <= 3 {
		role = []string{"off", "root", "des", "alt"}[p.Role]
	}
	if p.Open {
		state = "open"
	}
	if p.Has {
		claimed = fmt.Sprintf("%d.%d.%d.%d", p.Vec.Root, p.Vec.Cost, p.Vec.Bridge, p.Vec.Port)
	}
	return fmt.Sprintf("%s %s %d %s", role, state, p.Wait, claimed)
}

func plainBridgeText(b impl.Bridge) string {
	text := fmt.Sprintln(b.Id)
	for _, p := range b.Ports {
		text += fmt.Sprintln(plainPortText(p))
	}
	return text
}

func plainMinderText(m impl.Minder) string {
	state := "down"
	if m.Up {
		state = "up"
	}
	return fmt.Sprintf("%s %d %d %d %d %d %d", state, m.Life, m.Epoch, len(m.Log), m.Said, m.Acked, m.AckLife)
}

func plainBoxText(x impl.Box) string {
	text := fmt.Sprintf("reg %d %d %d\n", x.Reg.Epoch, x.Reg.Owner, x.Reg.Pair)
	for _, m := range x.Two {
		text += fmt.Sprintln(plainMinderText(m))
	}
	text += fmt.Sprintf("line %d", len(x.Line))
	for _, open := range x.Gates {
		if open {
			text += " o"
		} else {
			text += " s"
		}
	}
	return text + "\n"
}

func wantPortText(t *testing.T, p impl.Port, want string) {
	t.Helper()
	if got := impl.PortText(p); got != want {
		t.Errorf("PortText(%+v): %q, want %q", p, got, want)
	}
}

// wantBridgeText has a byte 10 behind each of lines.
func wantBridgeText(t *testing.T, b impl.Bridge, lines ...string) {
	t.Helper()
	if got, want := impl.BridgeText(b), textOf(lines); got != want {
		t.Errorf("BridgeText(%+v): %q, want %q", b, got, want)
	}
}

func wantMinderText(t *testing.T, m impl.Minder, want string) {
	t.Helper()
	if got := impl.MinderText(m); got != want {
		t.Errorf("MinderText(%+v): %q, want %q", m, got, want)
	}
}

// wantBoxText has a byte 10 behind each of lines.
func wantBoxText(t *testing.T, x impl.Box, lines ...string) {
	t.Helper()
	if got, want := impl.BoxText(x), textOf(lines); got != want {
		t.Errorf("BoxText(%+v): %q, want %q", x, got, want)
	}
}

func textOf(lines []string) string {
	text := ""
	for _, line := range lines {
		text += line + string([]byte{10})
	}
	return text
}

// wantWords asks that a line has so many words, with one blank between, and none ahead of them or behind them.
func wantWords(t *testing.T, line string, count int) {
	t.Helper()
	words := strings.Split(line, string([]byte{32}))
	if len(words) != count {
		t.Errorf("%q has %d words, want %d", line, len(words), count)
	}
	for _, one := range words {
		if one == "" || strings.Trim(one, "abcdefghijklmnopqrstuvwxyz0123456789-.") != "" {
			t.Errorf("%q has a word %q", line, one)
		}
	}
}

// linesOf asks that text ends with its line, and tells its lines.
func linesOf(t *testing.T, text string, count int) []string {
	t.Helper()
	if !strings.HasSuffix(text, "\n") {
		t.Fatalf("%q does not end with its line", text)
	}
	lines := strings.Split(strings.TrimSuffix(text, "\n"), "\n")
	if len(lines) != count {
		t.Fatalf("%q has %d lines, want %d", text, len(lines), count)
	}
	return lines
}

// wantPortShown holds the text of p against the chapter, and against how a line is to look.
func wantPortShown(t *testing.T, p impl.Port) {
	t.Helper()
	wantPortText(t, p, plainPortText(p))
	wantWords(t, impl.PortText(p), 4)
}

func wantBridgeShown(t *testing.T, b impl.Bridge) {
	t.Helper()
	text := impl.BridgeText(b)
	if want := plainBridgeText(b); text != want {
		t.Errorf("BridgeText(%+v): %q, want %q", b, text, want)
	}
	lines := linesOf(t, text, 1+len(b.Ports))
	wantWords(t, lines[0], 1)
	for at, p := range b.Ports {
		wantWords(t, lines[1+at], 4)
		if lines[1+at] != impl.PortText(p) {
			t.Errorf("port %d is %q, want %q", at, lines[1+at], impl.PortText(p))
		}
	}
}

func wantMinderShown(t *testing.T, m impl.Minder) {
	t.Helper()
	wantMinderText(t, m, plainMinderText(m))
	wantWords(t, impl.MinderText(m), 7)
}

func wantBoxShown(t *testing.T, x impl.Box) {
	t.Helper()
	text := impl.BoxText(x)
	if want := plainBoxText(x); text != want {
		t.Errorf("BoxText(%+v): %q, want %q", x, text, want)
	}
	lines := linesOf(t, text, 2+len(x.Two))
	wantWords(t, lines[0], 4)
	for at, m := range x.Two {
		wantWords(t, lines[1+at], 7)
		if lines[1+at] != impl.MinderText(m) {
			t.Errorf("minder %d is %q, want %q", at, lines[1+at], impl.MinderText(m))
		}
	}
	wantWords(t, lines[1+len(x.Two)], 2+len(x.Gates))
}

// outerNumbers are below 0, 0, above it, and as far from it as there are.
var outerNumbers = []int{math.MinInt, math.MinInt + 1, -100, -10, -9, -1, 0, 1, 9, 10, 100, 100001, math.MaxInt - 1, math.MaxInt}

func TestPortTextOfEachRole(t *testing.T) {
	for _, c := range []struct {
		role int
		want string
	}{
		{0, "off shut 0 -"}, {1, "root shut 0 -"}, {2, "des shut 0 -"}, {3, "alt shut 0 -"},
		{-1, "none shut 0 -"}, {-2, "none shut 0 -"}, {-3, "none shut 0 -"}, {4, "none shut 0 -"}, {5, "none shut 0 -"}, {256, "none shut 0 -"}, {1 << 32, "none shut 0 -"}, {1<<32 + 1, "none shut 0 -"},
		{math.MinInt, "none shut 0 -"}, {math.MinInt + 1, "none shut 0 -"}, {math.MaxInt - 1, "none shut 0 -"}, {math.MaxInt, "none shut 0 -"},
	} {
		wantPortText(t, impl.Port{Role: c.role}, c.want)
		wantPortText(t, impl.Port{Role: c.role, Up: true}, c.want)
	}
}

func TestPortTextOfWhatIsRight(t *testing.T) {
	v := vecOf(2, 20, 8, 3)
	wantPortText(t, impl.Port{}, "off shut 0 -")
	wantPortText(t, impl.Port{Wait: 4}, "off shut 4 -")
	wantPortText(t, portFor(impl.RoRoot, 0), "root open 0 -")
	wantPortText(t, portFor(impl.RoRoot, 4), "root shut 4 -")
	wantPortText(t, portFor(impl.RoDes, 0), "des open 0 -")
	wantPortText(t, portFor(impl.RoDes, 1), "des shut 1 -")
	wantPortText(t, portFor(impl.RoAlt, 0), "alt shut 0 -")
	wantPortText(t, portFor(impl.RoAlt, 2), "alt shut 2 -")
	wantPortText(t, withClaim(portFor(impl.RoRoot, 0), v, 8, 3), "root open 0 2.20.8.3")
	wantPortText(t, withClaim(portFor(impl.RoDes, 3), vecOf(1, 0, 1, 0), 0, 1), "des shut 3 1.0.1.0")
	wantPortText(t, withClaim(portFor(impl.RoAlt, 0), v, 1, 2), "alt shut 0 2.20.8.3")
}

// Open and shut are told as they stand, whatever the role and what is waited for ask.
func TestPortTextOfOpenAndShut(t *testing.T) {
	for role, word := range []string{"off", "root", "des", "alt", "none"} {
		for _, wait := range []int{0, 1, 4} {
			wantPortText(t, impl.Port{Role: role, Wait: wait, Open: true}, fmt.Sprintf("%s open %d -", word, wait))
			wantPortText(t, impl.Port{Role: role, Wait: wait}, fmt.Sprintf("%s shut %d -", word, wait))
		}
	}
}

func TestPortTextOfWait(t *testing.T) {
	for wait, want := range map[int]string{
		0: "0", 1: "1", 3: "3", 4: "4", 5: "5", 10: "10", 1234567: "1234567", -1: "-1", -4: "-4", -10: "-10",
		math.MinInt: leastText, math.MaxInt: greatestText,
	} {
		wantPortText(t, impl.Port{Wait: wait}, "off shut "+want+" -")
		wantPortText(t, impl.Port{Up: true, Role: impl.RoDes, Wait: wait, Open: true}, "des open "+want+" -")
	}
}

// Only whether it Has a claim counts, not what stands where one would.
func TestPortTextOfAClaim(t *testing.T) {
	for _, v := range slices.Concat(goodVecs(), bentVecs(), wildVecs()) {
		text := fmt.Sprintf("%d.%d.%d.%d", v.Root, v.Cost, v.Bridge, v.Port)
		wantPortText(t, impl.Port{Up: true, Has: true, Vec: v, Role: impl.RoAlt}, "alt shut 0 "+text)
		wantPortText(t, impl.Port{Up: true, Vec: v, Role: impl.RoAlt}, "alt shut 0 -")
		wantPortText(t, impl.Port{Has: true, Vec: v}, "off shut 0 "+text)
		wantPortText(t, impl.Port{Has: true, Vec: v, Role: 9, Wait: -2, Open: true}, "none open -2 "+text)
	}
	wantPortText(t, impl.Port{Has: true}, "off shut 0 0.0.0.0")
	wantPortText(t, impl.Port{Has: true, Vec: vecOf(math.MinInt, math.MaxInt, -1, 0)}, "off shut 0 "+leastText+"."+greatestText+".-1.0")
}

// Whether it is there, by how many a claim came and how long it is known are not told.
func TestPortTextOfWhatIsNotShown(t *testing.T) {
	for at, p := range slices.Concat(goodPorts(), bentPorts()) {
		want := impl.PortText(p)
		n := wildNumbers[at%len(wildNumbers)]
		wantPortText(t, bentBy(p, func(p *impl.Port) { p.Up = !p.Up }), want)
		wantPortText(t, bentBy(p, func(p *impl.Port) { p.Hops = n }), want)
		wantPortText(t, bentBy(p, func(p *impl.Port) { p.Left = n }), want)
	}
}

func TestPortTextOfAll(t *testing.T) {
	for _, p := range slices.Concat(goodPorts(), bentPorts()) {
		wantPortShown(t, p)
	}
	for _, role := range wildNumbers {
		for _, wait := range wildNumbers {
			for ways := range 8 {
				wantPortShown(t, impl.Port{Up: ways&1 > 0, Has: ways&2 > 0, Open: ways&4 > 0, Role: role, Wait: wait, Vec: vecOf(role, wait, -wait, ways)})
			}
		}
	}
}

// Two ports have one text just where all that is shown is alike.
func TestPortTextTellsEachApart(t *testing.T) {
	type shown struct {
		role, wait int
		open, has  bool
		vec        impl.Vec
	}
	told := map[string]shown{}
	for _, p := range goodPorts() {
		is := shown{p.Role, p.Wait, p.Open, p.Has, p.Vec}
		text := impl.PortText(p)
		if other, ok := told[text]; ok && other != is {
			t.Fatalf("%+v and %+v: %q", is, other, text)
		}
		told[text] = is
	}
	if len(told) != 20+15*len(fewVecs()) {
		t.Error("texts", len(told))
	}
}

func TestBridgeTextOfId(t *testing.T) {
	for id, want := range map[int]string{
		0: "0", 1: "1", 9: "9", 10: "10", -1: "-1", -9: "-9", -10: "-10", 1000000: "1000000",
		math.MinInt: leastText, math.MinInt + 1: "-" + greatestText, math.MaxInt: greatestText,
	} {
		wantBridgeText(t, impl.Bridge{Id: id}, want)
		wantBridgeText(t, impl.Bridge{Id: id, Ports: []impl.Port{}}, want)
		wantBridgeText(t, bridgeOf(id, impl.Port{}), want, "off shut 0 -")
		wantBridgeText(t, bridgeOf(id, portFor(impl.RoDes, 2), portFor(impl.RoAlt, 0)), want, "des shut 2 -", "alt shut 0 -")
	}
}

func TestBridgeTextOfPorts(t *testing.T) {
	wantBridgeText(t, impl.Bridge{}, "0")
	wantBridgeText(t, bridgeOf(4), "4")
	wantBridgeText(t, bridgeOf(4, portFor(impl.RoRoot, 0)), "4", "root open 0 -")
	four := []impl.Port{{}, withClaim(portFor(impl.RoRoot, 0), vecOf(1, 2, 3, 0), 2, 3), portFor(impl.RoDes, 4), withClaim(portFor(impl.RoAlt, 0), vecOf(1, 1, 2, 3), 1, 1)}
	lines := []string{"off shut 0 -", "root open 0 1.2.3.0", "des shut 4 -", "alt shut 0 1.1.2.3"}
	for count := range 5 {
		wantBridgeText(t, bridgeOf(9, four[:count]...), append([]string{"9"}, lines[:count]...)...)
	}
	// the ports in their order, and more than there can be
	for at, p := range four {
		wantBridgeText(t, bridgeOf(9, p, four[0]), "9", lines[at], lines[0])
		wantBridgeText(t, bridgeOf(9, slices.Concat(four, []impl.Port{p})...), append(append([]string{"9"}, lines...), lines[at])...)
	}
	wantBridgeText(t, bridgeOf(0, impl.Port{Role: 9, Wait: -1, Open: true, Has: true}), "0", "none open -1 0.0.0.0")
	wantBridgeText(t, bridgeOf(1, slices.Repeat(four, 250)...), append([]string{"1"}, slices.Repeat(lines, 250)...)...)
}

// A bridge told line by line while it comes to follow another one, and leaves it.
func TestBridgeTextOfOneThatReacts(t *testing.T) {
	b, _ := impl.BridgeNew(5, 2)
	wantBridgeText(t, b, "5", "off shut 0 -", "off shut 0 -")
	b = afterAll(b, linkIn(1, true))
	wantBridgeText(t, b, "5", "off shut 0 -", "des shut 4 -")
	b = afterAll(b, claimIn(1, vecOf(1, 2, 3, 0), 2), tickIn())
	wantBridgeText(t, b, "5", "off shut 0 -", "root shut 3 1.2.3.0")
	b = afterAll(b, linkIn(0, true), claimIn(0, vecOf(1, 1, 2, 3), 1))
	wantBridgeText(t, b, "5", "root shut 4 1.1.2.3", "alt shut 0 1.2.3.0")
	b = afterAll(b, tickIn(), tickIn(), tickIn(), claimIn(0, vecOf(1, 1, 2, 3), 1), tickIn())
	wantBridgeText(t, b, "5", "root open 0 1.1.2.3", "des shut 2 -")
}

func TestBridgeTextOfAll(t *testing.T) {
	for _, b := range slices.Concat(goodBridges(), bentBridges()) {
		wantBridgeShown(t, b)
	}
	eachBridge(func(id int, ports int, log []impl.In) {
		for n := 0; n <= len(log); n += 3 {
			wantBridgeShown(t, impl.BridgeOf(id, ports, log[:n]))
		}
	})
}

func TestMinderText(t *testing.T) {
	log := logOf(60, 1)
	for _, c := range []struct {
		m    impl.Minder
		want string
	}{
		{impl.Minder{}, "down 0 0 0 0 0 0"}, {impl.Minder{Up: true}, "up 0 0 0 0 0 0"}, {impl.Minder{Life: 7}, "down 7 0 0 0 0 0"},
		{impl.Minder{Up: true, Life: 2, Epoch: 3, Log: log[:9], Said: 4, Acked: 6, AckLife: 5}, "up 2 3 9 4 6 5"},
		{impl.Minder{Up: true, Life: 100000, Epoch: 99999, Log: log, Said: 60, Acked: 59, AckLife: 100000}, "up 100000 99999 60 60 59 100000"},
		{impl.Minder{Up: true, Log: []impl.In{}}, "up 0 0 0 0 0 0"}, {impl.Minder{Up: true, Log: log[:1]}, "up 0 0 1 0 0 0"},
		// what is none: it has something though it is down, or more than there can be
		{impl.Minder{Life: 1, Epoch: 2, Log: log[:3], Said: 4, Acked: 5, AckLife: 6}, "down 1 2 3 4 5 6"},
		{impl.Minder{Up: true, Log: make([]impl.In, 61), Said: 62, Acked: 63}, "up 0 0 61 62 63 0"},
		{impl.Minder{Log: make([]impl.In, 12345)}, "down 0 0 12345 0 0 0"},
		{impl.Minder{Up: true, Life: -1, Epoch: -2, Said: -3, Acked: -4, AckLife: -5}, "up -1 -2 0 -3 -4 -5"},
		{impl.Minder{Life: math.MinInt, Epoch: math.MaxInt, Said: math.MinInt, Acked: math.MaxInt, AckLife: math.MinInt}, fmt.Sprintf("down %[1]s %[2]s 0 %[1]s %[2]s %[1]s", leastText, greatestText)},
	} {
		wantMinderText(t, c.m, c.want)
	}
}

// Each number by itself, in its place among the others.
func TestMinderTextOfEachNumber(t *testing.T) {
	for _, n := range outerNumbers {
		for _, up := range []bool{false, true} {
			state := map[bool]string{false: "down", true: "up"}[up]
			m := impl.Minder{Up: up, Life: 11, Epoch: 12, Log: logOf(13, 1), Said: 14, Acked: 15, AckLife: 16}
			wantMinderText(t, minderBent(m, func(m *impl.Minder) { m.Life = n }), fmt.Sprintf("%s %d 12 13 14 15 16", state, n))
			wantMinderText(t, minderBent(m, func(m *impl.Minder) { m.Epoch = n }), fmt.Sprintf("%s 11 %d 13 14 15 16", state, n))
			wantMinderText(t, minderBent(m, func(m *impl.Minder) { m.Said = n }), fmt.Sprintf("%s 11 12 13 %d 15 16", state, n))
			wantMinderText(t, minderBent(m, func(m *impl.Minder) { m.Acked = n }), fmt.Sprintf("%s 11 12 13 14 %d 16", state, n))
			wantMinderText(t, minderBent(m, func(m *impl.Minder) { m.AckLife = n }), fmt.Sprintf("%s 11 12 13 14 15 %d", state, n))
		}
	}
	for count := range 63 {
		m := impl.Minder{Up: true, Life: 1, Log: logOf(count, count)}
		wantMinderText(t, m, fmt.Sprintf("up 1 0 %d 0 0 0", count))
		// how many there are, not which
		m.Log = make([]impl.In, count)
		wantMinderText(t, m, fmt.Sprintf("up 1 0 %d 0 0 0", count))
	}
}

func TestMinderTextOfAll(t *testing.T) {
	for _, m := range slices.Concat(goodMinders(), bentMinders()) {
		wantMinderShown(t, m)
	}
}

func TestBoxTextOfANewBox(t *testing.T) {
	for id := 1; id <= 9; id++ {
		for ports := 1; ports <= 4; ports++ {
			x := newBox(id, ports)
			gates := []string{"line 0 s", "line 0 s s", "line 0 s s s", "line 0 s s s s"}[ports-1]
			wantBoxText(t, x, "reg 1 0 0", "up 1 1 0 0 0 0", "up 2 0 0 0 0 0", gates)
			wantBoxText(t, turnedBox(x), "reg 1 1 0", "up 2 0 0 0 0 0", "up 1 1 0 0 0 0", gates)
		}
	}
	wantBoxText(t, impl.Box{}, "reg 0 0 0", "line 0")
	wantBoxText(t, impl.Box{Two: []impl.Minder{}, Gates: []bool{}, Line: []impl.In{}}, "reg 0 0 0", "line 0")
}

// Told line by line behind each of a row of deeds, down to the one that takes, and rises.
func TestBoxTextBehindDeeds(t *testing.T) {
	x := newBox(3, 2)
	for at, step := range []struct {
		deed            impl.Deed
		reg             string
		minder0, minder string
		line            string
	}{
		{inDeed(linkIn(0, true)), "reg 1 0 0", "up 1 1 1 0 0 0", "up 2 0 0 0 0 0", "line 0 s s"},
		{deedOf(impl.DdShip, 0), "reg 1 0 0", "up 1 1 1 0 0 0", "up 2 0 0 0 0 0", "line 0 s s"},
		{deedOf(impl.DdGive, 0), "reg 1 0 0", "up 1 1 1 0 0 0", "up 2 0 1 0 0 0", "line 0 s s"},
		{deedOf(impl.DdGive, 0), "reg 1 0 0", "up 1 1 1 0 1 2", "up 2 0 1 0 0 0", "line 0 s s"},
		{deedOf(impl.DdPair, 0), "reg 1 0 2", "up 1 1 1 0 1 2", "up 2 0 1 0 0 0", "line 0 s s"},
		{sayDeed(), "reg 1 0 2", "up 1 1 1 1 1 2", "up 2 0 1 0 0 0", "line 1 s s"},
		{deedOf(impl.DdFall, 0), "reg 1 0 2", "down 1 0 0 0 0 0", "up 2 0 1 0 0 0", "line 1 s s"},
		{deedOf(impl.DdTake, 1), "reg 2 1 0", "down 1 0 0 0 0 0", "up 2 2 1 1 0 0", "line 1 s s"},
		{inDeed(tickIn()), "reg 2 1 0", "down 1 0 0 0 0 0", "up 2 2 2 1 0 0", "line 1 s s"},
		{inDeed(tickIn()), "reg 2 1 0", "down 1 0 0 0 0 0", "up 2 2 3 1 0 0", "line 1 s s"},
		{inDeed(tickIn()), "reg 2 1 0", "down 1 0 0 0 0 0", "up 2 2 4 1 0 0", "line 1 s s"},
		{inDeed(tickIn()), "reg 2 1 0", "down 1 0 0 0 0 0", "up 2 2 5 1 0 0", "line 1 s s"},
		{sayDeed(), "reg 2 1 0", "down 1 0 0 0 0 0", "up 2 2 5 2 0 0", "line 2 s s"},
		{sayDeed(), "reg 2 1 0", "down 1 0 0 0 0 0", "up 2 2 5 3 0 0", "line 3 s s"},
		{sayDeed(), "reg 2 1 0", "down 1 0 0 0 0 0", "up 2 2 5 4 0 0", "line 4 s s"},
		{sayDeed(), "reg 2 1 0", "down 1 0 0 0 0 0", "up 2 2 5 5 0 0", "line 5 o s"},
		{deedOf(impl.DdRise, 0), "reg 2 1 0", "up 3 0 0 0 0 0", "up 2 2 5 5 0 0", "line 5 o s"},
	} {
		x = behindAll(t, x, step.deed)
		if want := textOf([]string{step.reg, step.minder0, step.minder, step.line}); impl.BoxText(x) != want {
			t.Fatalf("step %d: %q, want %q", at, impl.BoxText(x), want)
		}
	}
}

func TestBoxTextOfItsRegister(t *testing.T) {
	for _, n := range outerNumbers {
		for _, x := range []impl.Box{newBox(3, 2), {}} {
			behind := strings.SplitAfterN(impl.BoxText(x), "\n", 2)[1]
			for _, c := range []struct {
				reg  impl.Reg
				line string
			}{
				{regOf(n, 8, 7), fmt.Sprintf("reg %d 8 7\n", n)}, {regOf(6, n, 7), fmt.Sprintf("reg 6 %d 7\n", n)}, {regOf(6, 8, n), fmt.Sprintf("reg 6 8 %d\n", n)}, {regOf(n, n, n), fmt.Sprintf("reg %[1]d %[1]d %[1]d\n", n)},
			} {
				x.Reg = c.reg
				if got := impl.BoxText(x); got != c.line+behind {
					t.Errorf("of %+v: %q, want %q", c.reg, got, c.line+behind)
				}
			}
		}
	}
	wantBoxText(t, impl.Box{Reg: regOf(-1, -2, -3)}, "reg -1 -2 -3", "line 0")
	wantBoxText(t, impl.Box{Reg: regOf(math.MinInt, math.MaxInt, math.MinInt)}, "reg "+leastText+" "+greatestText+" "+leastText, "line 0")
}

// As many minders as there are, in their order.
func TestBoxTextOfItsMinders(t *testing.T) {
	three := []impl.Minder{{Up: true, Life: 1, Epoch: 5, Log: logOf(3, 1), Said: 2, Acked: 1, AckLife: 4}, {Life: 9}, {Epoch: -1, Said: -2, AckLife: 100001}}
	lines := []string{"up 1 5 3 2 1 4", "down 9 0 0 0 0 0", "down 0 -1 0 -2 0 100001"}
	for count := range 4 {
		wantBoxText(t, impl.Box{Two: three[:count]}, slices.Concat([]string{"reg 0 0 0"}, lines[:count], []string{"line 0"})...)
		x := boxBent(newBox(3, 2), func(x *impl.Box) { x.Two = three[:count] })
		wantBoxText(t, x, slices.Concat([]string{"reg 1 0 0"}, lines[:count], []string{"line 0 s s"})...)
	}
	for a := range three {
		for b := range three {
			wantBoxText(t, impl.Box{Two: []impl.Minder{three[a], three[b]}, Gates: []bool{true}}, "reg 0 0 0", lines[a], lines[b], "line 0 o")
		}
	}
	wantBoxText(t, impl.Box{Two: slices.Repeat(three, 100)}, slices.Concat([]string{"reg 0 0 0"}, slices.Repeat(lines, 100), []string{"line 0"})...)
}

// All ways in which gates can stand, of none and of more than there can be, too.
func TestBoxTextOfItsGates(t *testing.T) {
	for count := range 7 {
		for ways := range 1 << count {
			gates, line := make([]bool, count), "line 2"
			for port := range count {
				gates[port] = ways>>port&1 == 1
				line += []string{" s", " o"}[ways>>port&1]
			}
			wantBoxText(t, impl.Box{Gates: gates, Line: logOf(2, 1)}, "reg 0 0 0", line)
			x := boxBent(newBox(3, 2), func(x *impl.Box) { x.Gates, x.Line = gates, logOf(2, 1) })
			wantBoxText(t, x, "reg 1 0 0", "up 1 1 0 0 0 0", "up 2 0 0 0 0 0", line)
		}
	}
}

func TestBoxTextOfItsLine(t *testing.T) {
	for count := range 63 {
		for _, line := range [][]impl.In{logOf(count, count), make([]impl.In, count)} {
			x := boxBent(newBox(3, 2), func(x *impl.Box) { x.Line = line })
			wantBoxText(t, x, "reg 1 0 0", "up 1 1 0 0 0 0", "up 2 0 0 0 0 0", fmt.Sprintf("line %d s s", count))
			wantBoxText(t, impl.Box{Line: line}, "reg 0 0 0", fmt.Sprintf("line %d", count))
		}
	}
	wantBoxText(t, impl.Box{Line: make([]impl.In, 12345), Gates: []bool{true}}, "reg 0 0 0", "line 12345 o")
}

// Of which bridge it is, what is on its way and what was said are not told.
func TestBoxTextOfWhatIsNotShown(t *testing.T) {
	for _, x := range []impl.Box{newBox(3, 2), plainBox(), fullBox(), fallenBox(), {}} {
		want := impl.BoxText(x)
		for at, n := range wildNumbers {
			for _, bent := range []impl.Box{
				boxBent(x, func(x *impl.Box) { x.Id = n }), boxBent(x, func(x *impl.Box) { x.Ports = n }),
				boxBent(x, func(x *impl.Box) { x.Net = wiresOf(at) }), boxBent(x, func(x *impl.Box) { x.Net = []impl.Wire{{From: n}} }),
				boxBent(x, func(x *impl.Box) { x.Said = outsFrom(0, 3*at) }),
			} {
				if got := impl.BoxText(bent); got != want {
					t.Errorf("BoxText(%+v): %q, want %q", bent, got, want)
				}
			}
		}
	}
}

func TestBoxTextOfAll(t *testing.T) {
	for _, x := range slices.Concat(goodBoxes(), bentBoxes(), nobodyMinds()) {
		wantBoxShown(t, x)
	}
}

// What is done turns the text by just what it turned.
func TestBoxTextOfWhateverIsDone(t *testing.T) {
	told := map[string]bool{}
	for seed := range 30 {
		c := &chooser{uint64(5000 + seed)}
		c.walk(newBox(1+c.below(9), 1+c.below(4)), 300, c.nextDeed, func(_ impl.Box, _ impl.Deed, x impl.Box) {
			wantBoxShown(t, x)
			wantBridgeShown(t, impl.BridgeOf(x.Id, x.Ports, x.Line))
			told[impl.BoxText(x)] = true
		})
	}
	if len(told) < 1000 {
		t.Errorf("only %d texts", len(told))
	}
}

// showAll shows all that there is in x.
func showAll(x impl.Box) []string {
	list := []string{impl.BoxText(x), impl.BridgeText(impl.BridgeOf(x.Id, x.Ports, x.Line))}
	for _, m := range x.Two {
		list = append(list, impl.MinderText(m))
	}
	return list
}

// What is asked twice of the same is answered twice the same: nothing is kept.
func TestShowKeepsNothing(t *testing.T) {
	boxes := slices.Concat([]impl.Box{newBox(3, 2), plainBox(), {}, fullBox(), fallenBox()}, bentBoxes()[:20])
	var first [][]string
	for _, x := range boxes {
		first = append(first, showAll(x))
	}
	for range 3 {
		for at, x := range boxes {
			if again := showAll(x); !slices.Equal(again, first[at]) {
				t.Fatalf("%q, was %q", again, first[at])
			}
		}
	}
}

// A text stays what it is whatever becomes of what was shown.
func TestShowSharesNoMemory(t *testing.T) {
	b, m, x := bridgeOf(5, portFor(impl.RoDes, 0), portFor(impl.RoAlt, 0)), minding(), plainBox()
	texts := []string{impl.BridgeText(b), impl.MinderText(m), impl.BoxText(x)}
	kept := []string{strings.Clone(texts[0]), strings.Clone(texts[1]), strings.Clone(texts[2])}
	scrawl(b.Ports, impl.Port{Role: 77})
	scrawl(m.Log, impl.In{Kind: 77})
	scrawlBox(x)
	impl.BoxText(x)
	if !slices.Equal(texts, kept) {
		t.Errorf("%q, was %q", texts, kept)
	}
}

func TestShowWritesIntoNoArgument(t *testing.T) {
	// the room behind what is handed in is to stay as it is, too
	ports := slices.Concat(goodPorts()[:30], bentPorts()[:30])
	kept := slices.Clone(ports)
	for count := range len(ports) + 1 {
		wantBridgeShown(t, bridgeOf(count, ports[:count]...))
		if !slices.Equal(ports, kept) {
			t.Fatalf("written into: %+v, was %+v", ports, kept)
		}
	}
	boxes := slices.Concat(manyRooms(), []impl.Box{roomy(impl.Box{}), roomy(impl.Box{Two: []impl.Minder{minding()}}), roomy(impl.Box{Two: []impl.Minder{minding(), heir(), minding()}})})
	for _, x := range boxes {
		kept := behind(x)
		wantBoxShown(t, x)
		for _, m := range x.Two {
			wantMinderShown(t, m)
		}
		if !sameBox(behind(x), kept) {
			t.Fatalf("written into: %+v, was %+v", behind(x), kept)
		}
		// what stands behind the lists is not shown, either
		if !slices.Equal(showAll(copyBox(x)), showAll(x)) {
			t.Fatalf("%q, of a copy %q", showAll(x), showAll(copyBox(x)))
		}
	}
}

func FuzzShow(f *testing.F) {
	f.Add(true, true, 2, 0, 2, 1, 1, 0, true, 4, uint8(1), 2, 1, uint8(0), 0, 0, 0, uint8(2), uint8(1))
	f.Add(false, false, 0, 0, 0, 0, 9, 2, false, 0, uint8(0), 0, 0, uint8(61), 62, -1, 100001, uint8(0), uint8(0))
	f.Add(false, true, -1, math.MinInt, math.MaxInt, 4, -1, -1, true, math.MinInt, uint8(200), math.MaxInt, -7, uint8(255), math.MinInt, 5, -1, uint8(3), uint8(255))
	f.Fuzz(func(t *testing.T, up bool, has bool, root int, cost int, bridge int, port int, role int, wait int, open bool, id int, ports uint8, life int, epoch int, log uint8, said int, acked int, ackLife int, minders uint8, gates uint8) {
		p := impl.Port{Up: up, Has: has, Vec: vecOf(root, cost, bridge, port), Role: role, Wait: wait, Open: open}
		known := bentBy(p, func(p *impl.Port) { p.Role = role & 3 })
		b := bridgeOf(id, slices.Repeat([]impl.Port{p, known}, int(ports))...)
		m := impl.Minder{Up: up, Life: life, Epoch: epoch, Log: make([]impl.In, log), Said: said, Acked: acked, AckLife: ackLife}
		x := impl.Box{Id: id, Ports: int(ports), Reg: regOf(epoch, root, cost), Two: slices.Repeat([]impl.Minder{m, {}, {Up: up}}, int(minders))}
		for at := range gates {
			x.Gates = append(x.Gates, (at%3 == 0) == open)
		}
		x.Line = make([]impl.In, int(gates)+int(log))
		keptB, keptM, keptX := copyBridge(b), copyMinder(m), copyBox(x)
		wantPortShown(t, p)
		wantPortShown(t, known)
		wantBridgeShown(t, b)
		wantMinderShown(t, m)
		wantBoxShown(t, x)
		if !sameBridge(b, keptB) || !sameMinder(m, keptM) || !sameBox(x, keptX) {
			t.Errorf("was written into: %+v %+v %+v", b, m, x)
		}
	})
}
