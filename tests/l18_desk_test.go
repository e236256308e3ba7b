package tests

import (
	"fmt"
	"math"
	"regexp"
	"slices"
	"strconv"
	"strings"
	"sync"
	"testing"

	"loop.example/g00470/impl"
)

var plainForm = regexp.MustCompile(`^([a-z]+)((?: (?:0|[1-9][0-9]{0,5}))*)$`)

var plainKinds = map[string]int{"ship": 2, "give": 3, "lose": 4, "twice": 5, "fall": 7, "rise": 8, "take": 9, "pair": 10, "alone": 11, "yield": 12}

// plainDeedIn, and the plain ones behind it, say again what the chapter says.
func plainDeedIn(line string) (impl.Deed, bool) {
	parts := plainForm.FindStringSubmatch(line)
	if parts == nil {
		return impl.Deed{}, false
	}
	var n []int
	for _, one := range strings.Fields(parts[2]) {
		number, _ := strconv.Atoi(one)
		n = append(n, number)
	}
	switch kind, isOfOne := plainKinds[parts[1]]; {
	case isOfOne && len(n) == 1:
		return impl.Deed{Kind: kind, A: n[0]}, true
	case parts[1] == "tick" && n == nil:
		return impl.Deed{Kind: 1, In: impl.In{Kind: impl.InTick}}, true
	case (parts[1] == "up" || parts[1] == "down") && len(n) == 1:
		return impl.Deed{Kind: 1, In: impl.In{Kind: impl.InLink, Port: n[0], Up: parts[1] == "up"}}, true
	case parts[1] == "claim" && len(n) == 6:
		return impl.Deed{Kind: 1, In: impl.In{Kind: impl.InClaim, Port: n[0], Vec: vecOf(n[1], n[2], n[3], n[4]), Hops: n[5]}}, true
	case parts[1] == "say" && n == nil:
		return impl.Deed{Kind: 6}, true
	}
	return impl.Deed{}, false
}

func plainDeskLine(x impl.Box, line string) (impl.Box, string) {
	switch {
	case !plainBoxOk(x):
		return copyBox(x), "bad"
	case line == "" || strings.HasPrefix(line, "#"):
		return copyBox(x), ""
	case line == "box":
		return copyBox(x), plainBoxText(x)
	case line == "bridge":
		b, _ := plainTelling(x.Id, x.Ports, x.Line)
		return copyBox(x), plainBridgeText(b)
	case line == "judge":
		return copyBox(x), map[bool]string{true: "yes", false: "no"}[plainVerdict(x).all]
	}
	d, ok := plainDeedIn(line)
	if !ok {
		return copyBox(x), "what"
	}
	next, code := plainDo(x, d)
	return next, []string{"ok", "bad", "none", "idle", "full"}[code]
}

// plainSession tells, beside what the session does, the box behind it.
func plainSession(id int, ports int, lines string) (string, int, impl.Box) {
	if id < 1 || id > 9 || ports < 1 || ports > 4 {
		return "", -1, impl.Box{}
	}
	list := strings.Split(lines, "\n")
	if list[len(list)-1] == "" {
		list = list[:len(list)-1]
	}
	if len(list) > 60 {
		return "", -2, impl.Box{}
	}
	x, all := newBox(id, ports), ""
	for _, line := range list {
		next, told := plainDeskLine(x, line)
		if told != "" {
			all += told + "\n"
		}
		x = next
	}
	return all, len(list), x
}

// lineFor is the line that asks for d; false where none does.
func lineFor(d impl.Deed) (string, bool) {
	words := []string{"", "", "ship", "give", "lose", "twice", "", "fall", "rise", "take", "pair", "alone", "yield"}
	switch x := d.In; {
	case d.Kind == impl.DdSay:
		return "say", true
	case d.Kind == impl.DdIn && x.Kind == impl.InTick:
		return "tick", true
	case d.Kind == impl.DdIn && x.Kind == impl.InLink && x.Up:
		return fmt.Sprintf("up %d", x.Port), true
	case d.Kind == impl.DdIn && x.Kind == impl.InLink:
		return fmt.Sprintf("down %d", x.Port), true
	case d.Kind == impl.DdIn && x.Kind == impl.InClaim:
		return fmt.Sprintf("claim %d %d %d %d %d %d", x.Port, x.Vec.Root, x.Vec.Cost, x.Vec.Bridge, x.Vec.Port, x.Hops), true
	case d.Kind < 2 || d.Kind > 12 || d.A < 0:
		return "", false
	}
	return fmt.Sprintf("%s %d", words[d.Kind], d.A), true
}

// askingLines turn nothing, and tell something of each box.
var askingLines = []string{"box", "bridge", "judge"}

// quietLines tell nothing.
var quietLines = []string{"", "#", "##", "# ", "# x", "#tick", "#tick\n", "#box", "#\x00", "#\xff\xfe", "#what", "# 1 2 3"}

// deedLines are one of each form, with numbers that most boxes have use for.
var deedLines = []string{
	"tick", "up 0", "down 0", "claim 0 1 2 3 1 4", "ship 0", "give 0", "lose 0", "twice 0", "say",
	"fall 1", "rise 1", "take 1", "pair 0", "alone 0", "yield 1",
}

// moreLines are right, too, with other numbers.
var moreLines = []string{
	"up 1", "up 3", "up 4", "down 2", "down 999999", "claim 1 9 20 9 3 8", "claim 0 0 0 0 0 0", "claim 999999 999999 999999 999999 999999 999999",
	"ship 1", "ship 2", "give 1", "give 4", "give 999999", "lose 2", "lose 19", "lose 20", "twice 3", "twice 20",
	"fall 0", "fall 2", "rise 0", "rise 10", "take 0", "take 3", "pair 1", "pair 100", "alone 1", "alone 2", "yield 0", "yield 2",
}

func wantLine(t *testing.T, x impl.Box, line string, want impl.Box, told string) {
	t.Helper()
	if got, said := impl.DeskLine(x, line); said != told || !sameBox(got, want) {
		t.Errorf("DeskLine(%+v, %q): %+v %q, want %+v %q", x, line, got, said, want, told)
	}
}

// wantStays asks that it tells just that, and turns nothing.
func wantStays(t *testing.T, x impl.Box, line string, told string) {
	t.Helper()
	wantLine(t, x, line, x, told)
}

// wantTurned asks that it turns just that.
func wantTurned(t *testing.T, x impl.Box, line string, turn func(*impl.Box)) {
	t.Helper()
	wantLine(t, x, line, boxBent(x, turn), "ok")
}

func wantLineAsPlain(t *testing.T, x impl.Box, line string) {
	t.Helper()
	want, told := plainDeskLine(x, line)
	wantLine(t, x, line, want, told)
}

// wantLineIs asks that a line is that deed, and tells that of it.
func wantLineIs(t *testing.T, x impl.Box, line string, d impl.Deed, told string) {
	t.Helper()
	want, _ := plainDo(x, d)
	wantLine(t, x, line, want, told)
}

func wantSession(t *testing.T, id int, ports int, lines string, told string, count int) {
	t.Helper()
	if got, n := impl.Session(id, ports, lines); got != told || n != count {
		t.Errorf("Session(%d, %d, %q): %q %d, want %q %d", id, ports, lines, got, n, told, count)
	}
}

func wantSessionAsPlain(t *testing.T, id int, ports int, lines string) {
	t.Helper()
	told, count, _ := plainSession(id, ports, lines)
	wantSession(t, id, ports, lines, told, count)
}

// wantLineByLine asks that a session tells what DeskLine tells, line by line.
func wantLineByLine(t *testing.T, id int, ports int, list []string) {
	t.Helper()
	x, all := newBox(id, ports), ""
	for _, line := range list {
		next, told := impl.DeskLine(x, line)
		if told != "" {
			all += told + "\n"
		}
		x = next
	}
	wantSession(t, id, ports, textOf(list), all, len(list))
	if len(list) > 0 && list[len(list)-1] != "" {
		wantSession(t, id, ports, strings.Join(list, "\n"), all, len(list))
	}
}

// someBoxes have use for most lines: new, amid what is done, at their limits, with nobody that minds.
func someBoxes(t *testing.T) []impl.Box {
	t.Helper()
	list := []impl.Box{newBox(3, 2), newBox(9, 4), lowBox(), plainBox(), fullBox(), fallenBox(), storyBox(t), lineBox(4, 3, variedLog(60))}
	list = append(list, turnedBox(lowBox()), turnedBox(fullBox()), boxBent(lowBox(), func(x *impl.Box) { x.Net = wiresOf(20) }))
	return append(list, nobodyMinds()[:6]...)
}

func TestDeskLimit(t *testing.T) {
	if impl.MaxLines != 60 {
		t.Error("lines", impl.MaxLines)
	}
}

func TestDeskLineOfWhatComesIn(t *testing.T) {
	eachWay(newBox(3, 4), func(x impl.Box, s int) {
		for line, in := range map[string]impl.In{
			"tick": tickIn(), "up 0": linkIn(0, true), "up 3": linkIn(3, true), "down 0": linkIn(0, false), "down 3": linkIn(3, false),
			"claim 0 1 2 3 1 4": claimIn(0, vecOf(1, 2, 3, 1), 4), "claim 3 2 20 9 0 8": claimIn(3, vecOf(2, 20, 9, 0), 8), "claim 2 5 0 5 3 0": claimIn(2, vecOf(5, 0, 5, 3), 0),
		} {
			wantTurned(t, x, line, func(x *impl.Box) { x.Two[s].Log = []impl.In{in} })
			// behind what came already, and up to the limit
			for _, count := range []int{1, 30, 59} {
				x := boxBent(x, func(x *impl.Box) { x.Two[s].Log = logOf(count, 1) })
				wantTurned(t, x, line, func(x *impl.Box) { x.Two[s].Log = append(x.Two[s].Log, in) })
			}
			wantStays(t, boxBent(x, func(x *impl.Box) { x.Two[s].Log = logOf(60, 1) }), line, "full")
			wantStays(t, boxBent(x, func(x *impl.Box) { x.Two[s] = impl.Minder{Life: 7} }), line, "idle")
		}
	})
	for _, x := range nobodyMinds() {
		for _, line := range []string{"tick", "up 0", "down 0", "claim 0 1 2 3 1 4", "up 4", "claim 0 0 0 0 0 0"} {
			wantStays(t, x, line, "idle")
		}
	}
}

// A port that is none, and a claim that can't be, are numbers all the same.
func TestDeskLineOfWhatCannotComeIn(t *testing.T) {
	for _, line := range []string{
		"up 2", "up 3", "up 4", "up 10", "up 999999", "down 2", "down 4", "down 999999",
		"claim 2 1 2 3 1 4", "claim 4 1 2 3 1 4", "claim 999999 1 2 3 1 4",
		"claim 0 0 2 3 1 4", "claim 0 4 2 3 1 4", "claim 0 1 0 3 1 4", "claim 0 1 21 3 1 4", "claim 0 3 2 3 1 4", "claim 0 1 2 0 1 4", "claim 0 1 2 10 1 4",
		"claim 0 1 2 3 4 4", "claim 0 1 2 3 1 9", "claim 0 999999 2 3 1 4", "claim 0 1 999999 3 1 4", "claim 0 1 2 999999 1 4", "claim 0 1 2 3 999999 4", "claim 0 1 2 3 1 999999",
	} {
		wantStays(t, newBox(3, 2), line, "idle")
		wantStays(t, turnedBox(newBox(3, 2)), line, "idle")
		// that is told ahead of no room
		wantStays(t, boxBent(newBox(3, 2), func(x *impl.Box) { x.Two[0].Log = logOf(60, 1) }), line, "idle")
	}
}

// Each of the numbers of a claim in its place.
func TestDeskLineOfAClaim(t *testing.T) {
	x, tried := newBox(3, 4), 0
	for _, in := range goodIns() {
		line, _ := lineFor(inDeed(in))
		wantTurned(t, x, line, func(x *impl.Box) { x.Two[0].Log = []impl.In{in} })
		if in.Kind == impl.InClaim {
			tried++
		}
	}
	if tried < 20 {
		t.Error("claims", tried)
	}
}

func TestDeskLineOfAMinder(t *testing.T) {
	eachWay(lowBox(), func(x impl.Box, s int) {
		to := 1 - s
		x.Two[s].Acked = 2
		fallen := boxBent(x, func(x *impl.Box) { x.Two[to] = impl.Minder{Life: 7} })
		wantLineIs(t, x, fmt.Sprint("ship ", s), deedOf(impl.DdShip, s), "ok")
		wantStays(t, x, fmt.Sprint("ship ", to), "idle")
		wantStays(t, boxBent(x, func(x *impl.Box) { x.Two[s].Acked, x.Two[s].AckLife = 6, 7 }), fmt.Sprint("ship ", s), "idle")
		wantStays(t, boxBent(x, func(x *impl.Box) { x.Net = wiresOf(20) }), fmt.Sprint("ship ", s), "full")

		wantTurned(t, x, fmt.Sprint("fall ", s), func(x *impl.Box) { x.Two[s] = impl.Minder{Life: 5} })
		wantTurned(t, x, fmt.Sprint("fall ", to), func(x *impl.Box) { x.Two[to] = impl.Minder{Life: 7} })
		wantStays(t, fallen, fmt.Sprint("fall ", to), "idle")

		wantTurned(t, fallen, fmt.Sprint("rise ", to), func(x *impl.Box) { x.Two[to] = impl.Minder{Up: true, Life: 8} })
		wantStays(t, fallen, fmt.Sprint("rise ", s), "idle")
		wantStays(t, boxBent(fallen, func(x *impl.Box) { x.Two[to].Life = 100000 }), fmt.Sprint("rise ", to), "full")

		wantLineIs(t, x, fmt.Sprint("take ", to), deedOf(impl.DdTake, to), "ok")
		wantStays(t, x, fmt.Sprint("take ", s), "idle")
		wantStays(t, boxBent(x, func(x *impl.Box) { x.Line = logOf(7, 1) }), fmt.Sprint("take ", to), "full")

		x.Two[s].Acked, x.Two[s].AckLife = 6, 9
		wantTurned(t, x, fmt.Sprint("pair ", s), func(x *impl.Box) { x.Reg.Pair = 9 })
		wantStays(t, x, fmt.Sprint("pair ", to), "idle")
		wantStays(t, boxBent(x, func(x *impl.Box) { x.Two[s].Acked = 5 }), fmt.Sprint("pair ", s), "idle")

		wantTurned(t, x, fmt.Sprint("alone ", s), func(x *impl.Box) { x.Reg.Pair = 0 })
		wantStays(t, x, fmt.Sprint("alone ", to), "idle")

		takenFrom := boxBent(x, func(x *impl.Box) { x.Two[to].Epoch = 2 })
		wantTurned(t, takenFrom, fmt.Sprint("yield ", to), func(x *impl.Box) { x.Two[to] = impl.Minder{Up: true, Life: 8} })
		wantStays(t, takenFrom, fmt.Sprint("yield ", s), "idle")
		wantStays(t, x, fmt.Sprint("yield ", to), "idle")
		wantStays(t, boxBent(takenFrom, func(x *impl.Box) { x.Two[s].Life = 100000 }), fmt.Sprint("yield ", to), "full")
	})
	for _, x := range someBoxes(t) {
		for _, word := range []string{"ship", "fall", "rise", "take", "pair", "alone", "yield"} {
			for _, a := range []int{2, 3, 9, 10, 256, 999999} {
				wantStays(t, x, fmt.Sprint(word, " ", a), "none")
			}
		}
	}
}

func TestDeskLineOfAWire(t *testing.T) {
	for _, x := range []impl.Box{lowBox(), turnedBox(lowBox()), plainBox(), fallenBox(), fullBox()} {
		for _, count := range []int{0, 1, 2, 9, 19, 20} {
			x.Net = wiresOf(count)
			for a := range count {
				wantLineIs(t, x, fmt.Sprint("give ", a), deedOf(impl.DdGive, a), "ok")
				wantTurned(t, x, fmt.Sprint("lose ", a), func(x *impl.Box) { x.Net = slices.Delete(x.Net, a, a+1) })
				if count < 20 {
					wantTurned(t, x, fmt.Sprint("twice ", a), func(x *impl.Box) { x.Net = append(x.Net, x.Net[a]) })
				} else {
					wantStays(t, x, fmt.Sprint("twice ", a), "full")
				}
			}
			for _, a := range []int{count, count + 1, 20, 21, 999999} {
				for _, word := range []string{"give", "lose", "twice"} {
					wantStays(t, x, fmt.Sprint(word, " ", a), "none")
				}
			}
		}
	}
}

func TestDeskLineSay(t *testing.T) {
	eachWay(lowBox(), func(x impl.Box, s int) {
		wantStays(t, boxBent(x, func(x *impl.Box) { x.Two[s].Acked = 4 }), "say", "idle")
		said := impl.Saying(5, 3, x.Two[s].Log, 4)
		want := boxBent(impl.Accept(x, s, said), func(x *impl.Box) { x.Two[s].Said, x.Line = 5, x.Two[s].Log[:5] })
		wantLine(t, x, "say", want, "ok")
		wantStays(t, boxBent(x, func(x *impl.Box) { x.Two[s].Said = 6 }), "say", "idle")
	})
	for _, x := range nobodyMinds() {
		wantStays(t, x, "say", "idle")
	}
}

func TestDeskLineThatAsks(t *testing.T) {
	fresh := newBox(3, 2)
	wantStays(t, fresh, "box", "reg 1 0 0\nup 1 1 0 0 0 0\nup 2 0 0 0 0 0\nline 0 s s\n")
	wantStays(t, fresh, "bridge", "3\noff shut 0 -\noff shut 0 -\n")
	wantStays(t, fresh, "judge", "yes")
	// the bridge is that of what was released, not of all that came
	came := behindAll(t, fresh, inDeed(linkIn(1, true)), inDeed(tickIn()))
	wantStays(t, came, "bridge", "3\noff shut 0 -\noff shut 0 -\n")
	wantStays(t, came, "box", "reg 1 0 0\nup 1 1 2 0 0 0\nup 2 0 0 0 0 0\nline 0 s s\n")
	said := behindAll(t, came, sayDeed())
	wantStays(t, said, "bridge", "3\noff shut 0 -\ndes shut 4 -\n")
	said = behindAll(t, said, sayDeed())
	wantStays(t, said, "bridge", "3\noff shut 0 -\ndes shut 3 -\n")
	wantStays(t, said, "box", "reg 1 0 0\nup 1 1 2 2 0 0\nup 2 0 0 0 0 0\nline 2 s s\n")
	wantStays(t, said, "judge", "yes")
}

// The judge says no where any one thing fails.
func TestDeskLineJudge(t *testing.T) {
	x := storyBox(t)
	wantStays(t, x, "judge", "yes")
	for _, turn := range []func(*impl.Box){
		func(x *impl.Box) { x.Gates[0] = !x.Gates[0] }, func(x *impl.Box) { x.Said = x.Said[1:] }, func(x *impl.Box) { x.Two[0].Said-- },
		func(x *impl.Box) { x.Two[0].Log[0] = tickIn() }, func(x *impl.Box) { x.Two[1].Log = x.Two[1].Log[:7] },
	} {
		wantStays(t, boxBent(x, turn), "judge", "no")
	}
	// a box in which nobody could take is like one all the same
	wantStays(t, boxBent(x, func(x *impl.Box) { x.Two[1] = impl.Minder{Life: 2} }), "judge", "yes")
}

func TestAskingTurnsNothing(t *testing.T) {
	yes := map[string]int{}
	for _, x := range slices.Concat(goodBoxes(), nobodyMinds(), someBoxes(t)) {
		for _, line := range askingLines {
			wantLineAsPlain(t, x, line)
			got, told := impl.DeskLine(x, line)
			if !sameBox(got, x) {
				t.Fatalf("%q turns %+v: %+v", line, x, got)
			}
			yes[told]++
		}
	}
	if yes["yes"] < 20 || yes["no"] < 20 {
		t.Error("judged", yes["yes"], yes["no"])
	}
}

func TestDeskLineOfNothing(t *testing.T) {
	for _, x := range slices.Concat(someBoxes(t), goodBoxes()[:20]) {
		for _, line := range quietLines {
			wantStays(t, x, line, "")
		}
	}
}

// Of what is no box each line tells the same, the empty one and one that asks, too.
func TestDeskLineOfNoBox(t *testing.T) {
	lines := slices.Concat(askingLines, quietLines, deedLines, moreLines, []string{"what", "bad", "up 01", "Tick", " ", "\xff"})
	for _, line := range lines {
		wantLine(t, impl.Box{}, line, impl.Box{}, "bad")
	}
	for at, x := range bentBoxes() {
		if impl.BoxOk(x) {
			t.Fatalf("a box: %+v", x)
		}
		for _, line := range []string{"", "#", "box", "bridge", "judge", "say", "what", lines[at%len(lines)], lines[(at*7+3)%len(lines)]} {
			wantStays(t, x, line, "bad")
		}
	}
}

// bentLines are what comes of a line by one small thing, none of which is a line.
func bentLines(line string) []string {
	words := strings.Split(line, " ")
	list := []string{
		" " + line, line + " ", line + "  ", line + " 0", line + " 1", line + " x", line + "\t", line + "\n", line + "\r", line + "\x00", line + "#", line + " #", line + ",", line + "\xff",
		"\t" + line, "\n" + line, "x" + line, "\xef\xbb\xbf" + line, line + line, line + " " + line, line + "x", line + "-", line + ".", line + "٣",
		strings.ToUpper(line[:1]) + line[1:], strings.ToUpper(words[0]) + line[len(words[0]):], words[0][:len(words[0])-1] + line[len(words[0]):], words[0][1:] + line[len(words[0]):],
		words[0] + "x" + line[len(words[0]):], words[0] + "\x00" + line[len(words[0]):], words[0] + "ſ" + line[len(words[0]):], "'" + line + "'",
	}
	for at := range words[1:] {
		at++
		put := func(word string) {
			list = append(list, strings.Join(slices.Concat(words[:at], []string{word}, words[at+1:]), " "))
		}
		for _, word := range []string{
			"", " " + words[at], words[at] + " ", "0" + words[at], "00" + words[at], "+" + words[at], "-" + words[at], "-1", "-0", "+1", "00", "01", "000000", "0000001",
			"1000000", "1000001", "9999999", "4294967296", "9223372036854775807", "9223372036854775808", "18446744073709551616", "99999999999999999999999", "-9223372036854775808", "-9223372036854775809",
			"x", "1x", "x1", "1.", "1.0", ".1", "1e1", "0x1", "0b1", "0o1", "1_0", "1,0", "'1'", "１", "٣", "\xff", "1\xff", "\x00", "1\x00", "\t1", "1\t", "\n1", "1\n", "#", "0 0", "1  1", "tick", "A", "P",
		} {
			put(word)
		}
		// one fewer, another byte between
		list = append(list, strings.Join(slices.Delete(slices.Clone(words), at, at+1), " "))
		for _, by := range []string{"\t", "\n", "\x00", "\v", "\u00a0", "\u0120", "\u3000", ",", ".", "", "  "} {
			list = append(list, strings.Join(words[:at], " ")+by+strings.Join(words[at:], " "))
		}
	}
	return list
}

func TestDeskLineOfNoLine(t *testing.T) {
	boxes := someBoxes(t)
	for _, line := range []string{
		"what", "bad", "ok", "help", "none", "idle", "full", "tickx", "ticks", "ti", "t", "tic", "Tick", "TICK", "tick 1", "tick 0", "up", "up 01", "up ", "up  1", " up 1", "up 1 ", "up 1 1", "up -1", "up x", "ups 1", "Up 1",
		"ship 00", "ship", "ship ", "ship 1000000", "ship 9223372036854775808", "claim 0 1", "claim", "claim 0 1 0 1 2", "claim 0 1 0 1 2 0 0", "claim 0 1 0 1 2 00", "claim 0 1.0.1.2 0", "say 0", "say 1", "say ", "says", "sa",
		"box 0", "box ", " box", "boxes", "bo", "Box", "bridge 0", "bridge ", "bridges", "bridg", "judge 0", "judge ", "judges", "judg", "Judge", "box\n", "bridge\r", "judge\x00",
		"link 0 up", "link 0 down", "gate 0 open", "in", "in 0", "note", "reg", "line", "1", "0", "01", "-", " ", "  ", "\t", "\n", "\r", "\x00", " #", "\t# x", "\xff", "\xff\xfe", "\xc3", "\xe2\x82", "é", "☃", "tïck", "tick\xff", "\xfftick", "up \xff", "up\xff1", "up\xa01", "up\u01201", "\u0174ick", "ſay", "sày", "ſhip 0", "taKe 1",
		"yield", "alone", "pair", "take", "rise", "fall", "twice", "lose", "give", "down", "do", "do 1", "tick tick", "tick\ntick", "up 1\nup 1", "ship 0 ship 0", strings.Repeat("x", 10000), strings.Repeat(" ", 10000), "up " + strings.Repeat("0", 10000), "up " + strings.Repeat("9", 10000), "up 1" + strings.Repeat(" 1", 10000), "tick" + strings.Repeat("k", 1000),
	} {
		for _, x := range boxes {
			wantStays(t, x, line, "what")
		}
	}
	for _, line := range slices.Concat(deedLines, moreLines[:10], askingLines) {
		for at, bent := range bentLines(line) {
			wantStays(t, boxes[at%len(boxes)], bent, "what")
			wantStays(t, boxes[0], bent, "what")
		}
	}
}

// One byte more, one less, one that is another one: it is what the chapter says, whichever of all bytes that is.
func TestDeskLineOfEachByte(t *testing.T) {
	x, told := storyBox(t), map[string]int{}
	look := func(line string) {
		wantLineAsPlain(t, x, line)
		_, said := impl.DeskLine(x, line)
		told[said]++
	}
	for c := range 256 {
		one := string([]byte{byte(c)})
		look(one)
		for _, line := range slices.Concat(deedLines, askingLines) {
			for at := range len(line) {
				if c == 0 {
					look(line[:at])
					look(line[:at] + line[at+1:])
				}
				if c%5 == at%5 || c < 64 {
					look(line[:at] + one + line[at+1:])
				}
			}
			look(line + one)
			look(one + line)
		}
	}
	for _, said := range []string{"ok", "idle", "none", "what", "", "yes"} {
		if told[said] == 0 {
			t.Errorf("none told %q", said)
		}
	}
}

// The numbers of a line are those that Number reads, whatever else a number could be.
func TestDeskLineOfNumbers(t *testing.T) {
	for _, x := range []impl.Box{newBox(3, 2), lowBox(), boxBent(lowBox(), func(x *impl.Box) { x.Net = wiresOf(20) })} {
		for _, word := range []string{"up", "down", "ship", "give", "lose", "twice", "fall", "rise", "take", "pair", "alone", "yield"} {
			for n := range 100 {
				wantLineAsPlain(t, x, fmt.Sprint(word, " ", n))
				wantStays(t, x, fmt.Sprint(word, " 0", n), "what")
			}
			for _, n := range slices.Concat(edgeNumbers, outerNumbers, wildNumbers, []int{999998, 999999, 1000000}) {
				line := fmt.Sprint(word, " ", n)
				wantLineAsPlain(t, x, line)
				if _, told := impl.DeskLine(x, line); (told == "what") != (n < 0 || n > 999999) {
					t.Errorf("%q: %q", line, told)
				}
			}
		}
	}
}

// A line is the deed that it names, of whichever box.
func TestDeskLineIsDo(t *testing.T) {
	words := []string{"ok", "bad", "none", "idle", "full"}
	told := map[string]int{}
	for _, x := range slices.Concat(goodBoxes(), nobodyMinds(), someBoxes(t)) {
		for _, d := range deedsFor(x) {
			line, ok := lineFor(d)
			if !ok {
				continue
			}
			want, code := impl.Do(x, d)
			wantLine(t, x, line, want, words[code])
			told[words[code]]++
		}
		for _, line := range slices.Concat(deedLines, moreLines) {
			wantLineAsPlain(t, x, line)
		}
	}
	for _, word := range []string{"ok", "none", "idle", "full"} {
		if told[word] < 50 {
			t.Errorf("%q only %d times", word, told[word])
		}
	}
}

func TestSessionOfNoBox(t *testing.T) {
	texts := []string{"", "tick", "\n", "box\n", "#", strings.Repeat("\n", 60), strings.Repeat("\n", 61), strings.Repeat("tick\n", 1000)}
	for _, n := range slices.Concat(wildNumbers, edgeNumbers, outerNumbers, []int{6, 7, 10, 11}) {
		for _, lines := range texts {
			if n < 1 || n > 9 {
				wantSession(t, n, 2, lines, "", -1)
			} else {
				wantSession(t, n, 2, "tick", "ok\n", 1)
			}
			if n < 1 || n > 4 {
				wantSession(t, 3, n, lines, "", -1)
				wantSession(t, n, n, lines, "", -1)
			} else {
				wantSession(t, 3, n, "tick", "ok\n", 1)
			}
		}
	}
}

// How many lines there are hangs on the bytes 10 alone, and on whether something stands behind the last one.
func TestSessionLines(t *testing.T) {
	for _, c := range []struct {
		lines string
		told  string
		count int
	}{
		{"", "", 0}, {"\n", "", 1}, {"\n\n", "", 2}, {"\n\n\n", "", 3},
		{"tick", "ok\n", 1}, {"tick\n", "ok\n", 1}, {"tick\n\n", "ok\n", 2}, {"\ntick", "ok\n", 2}, {"\ntick\n", "ok\n", 2}, {"\n\ntick\n\n", "ok\n", 4},
		{"tick\ntick", "ok\nok\n", 2}, {"tick\ntick\n", "ok\nok\n", 2}, {"tick\n\ntick", "ok\nok\n", 3}, {"tick\n\n\ntick\n", "ok\nok\n", 4},
		{"#", "", 1}, {"#\n", "", 1}, {"#\n#", "", 2}, {"# a\ntick\n# b", "ok\n", 3}, {"#\n\n#\n", "", 3},
		{" ", "what\n", 1}, {" \n", "what\n", 1}, {"\n ", "what\n", 2}, {"tick\n ", "ok\nwhat\n", 2},
		{"tick\r\ntick\r\n", "what\nwhat\n", 2}, {"tick\rtick", "what\n", 1}, {"\r", "what\n", 1}, {"tick\r", "what\n", 1}, {"tick\x00tick", "what\n", 1}, {"tick\vtick\ftick", "what\n", 1},
		{"tick\u0085tick", "what\n", 1}, {"tick\u2028tick", "what\n", 1}, {"tick\u2029tick", "what\n", 1}, {"tick\u010atick", "what\n", 1}, {"tick\u0a0atick\ntick", "what\nok\n", 2},
		{"\xff\ntick", "what\nok\n", 2}, {"tick\n\xff", "ok\nwhat\n", 2}, {"\xe2\x82\ntick", "what\nok\n", 2}, {"\xe2\ntick", "what\nok\n", 2}, {"\xf0\x9f\x98\ntick\n", "what\nok\n", 2}, {"\xc4\ntick\n\xc4\n", "what\nok\nwhat\n", 3}, {"#\xe2\ntick", "ok\n", 2}, {"\x80\n\x80\ntick", "what\nwhat\nok\n", 3}, {"é\ntick\n☃\ntick", "what\nok\nwhat\nok\n", 4},
		{"judge\njudge", "yes\nyes\n", 2}, {"what", "what\n", 1}, {"ship 0", "idle\n", 1}, {"give 0", "none\n", 1},
		{"bridge", "3\noff shut 0 -\noff shut 0 -\n\n", 1}, {"bridge\n\nbox\n", "3\noff shut 0 -\noff shut 0 -\n\nreg 1 0 0\nup 1 1 0 0 0 0\nup 2 0 0 0 0 0\nline 0 s s\n\n", 3},
		{"up 1\nbridge\nsay\nbridge", "ok\n3\noff shut 0 -\noff shut 0 -\n\nok\n3\noff shut 0 -\ndes shut 4 -\n\n", 4},
	} {
		wantSession(t, 3, 2, c.lines, c.told, c.count)
		wantSessionAsPlain(t, 3, 2, c.lines)
	}
}

func TestSessionAtItsLimit(t *testing.T) {
	for _, line := range []string{"tick", "", "#", "what", "up 9", "judge"} {
		told := map[string]string{"tick": "ok\n", "what": "what\n", "up 9": "idle\n", "judge": "yes\n"}[line]
		for _, count := range []int{1, 2, 30, 59, 60} {
			wantSession(t, 3, 2, strings.Repeat(line+"\n", count), strings.Repeat(told, count), count)
			if line != "" {
				wantSession(t, 3, 2, strings.Repeat("\n"+line, count)[1:], strings.Repeat(told, count), count)
			}
		}
		for _, count := range []int{61, 62, 100, 10000} {
			wantSession(t, 3, 2, strings.Repeat(line+"\n", count), "", -2)
			if line != "" {
				wantSession(t, 3, 2, strings.Repeat("\n"+line, count)[1:], "", -2)
			}
		}
	}
	// the last one counts with and without its byte 10; what stands behind it counts where it is not empty
	sixty := strings.Repeat("\n", 60)
	wantSession(t, 3, 2, sixty, "", 60)
	wantSession(t, 3, 2, sixty+"\n", "", -2)
	wantSession(t, 3, 2, sixty+"tick", "", -2)
	wantSession(t, 3, 2, sixty+"#", "", -2)
	wantSession(t, 3, 2, sixty[1:]+"tick", "ok\n", 60)
	wantSession(t, 3, 2, sixty[1:]+"tick\n", "ok\n", 60)
	wantSession(t, 3, 2, sixty[1:]+"tick\n\n", "", -2)
	// as many as there can come in; then all answers of them
	wantSession(t, 3, 2, strings.Repeat("tick\n", 59)+"box", strings.Repeat("ok\n", 59)+"reg 1 0 0\nup 1 1 59 0 0 0\nup 2 0 0 0 0 0\nline 0 s s\n\n", 60)
}

// One story: what came is with both, the first one is lost, the second one takes and goes on; the first one comes back as who gets all.
func TestSessionStory(t *testing.T) {
	said := "ok\n"
	wantSession(t, 4, 2, strings.Join([]string{
		"up 0", "up 1", "ship 0", "give 0", "give 0", "ship 0", "give 0", "give 0", "pair 0", "say",
		"tick", "say", "say", "# minder 0 is lost", "fall 0", "tick", "take 1", "say", "judge", "",
		"rise 0", "ship 1", "give 0", "twice 0", "give 0", "lose 0", "ship 1", "give 0", "give 0", "alone 1",
		"say", "tick", "tick", "claim 1 1 0 1 2 0", "tick", "say", "say", "say", "say", "judge",
		"box", "bridge", "yield 0", "yield 1", "take 1", "take 0", "rise 2", "lose 0", "fall 0", "fall 0",
	}, "\n"),
		strings.Repeat(said, 10)+"ok\nok\nidle\nok\nidle\nok\nidle\nyes\n"+
			strings.Repeat(said, 10)+"idle\nok\nok\nok\nok\nok\nok\nok\nok\nyes\n"+
			"reg 2 1 0\nup 3 0 2 0 0 0\nup 2 2 6 6 2 3\nline 6 s s\n\n4\ndes shut 1 -\nroot shut 1 1.0.1.2\n\n"+
			"idle\nidle\nidle\nidle\nnone\nnone\nok\nidle\n", 50)
}

// nextLine is one that may well be done, that asks, that tells nothing or that is none.
func (c *chooser) nextLine(x impl.Box) string {
	switch n := c.below(20); {
	case n < 14:
		if line, ok := lineFor(c.nextDeed(x)); ok {
			return line
		}
		return "what"
	case n < 17:
		return askingLines[c.below(3)]
	case n == 17:
		return quietLines[c.below(6)]
	case n == 18:
		return moreLines[c.below(len(moreLines))]
	}
	bent := bentLines(deedLines[c.below(len(deedLines))])
	return strings.ReplaceAll(bent[c.below(len(bent))], "\n", "?")
}

// script is so many lines for a new box.
func (c *chooser) script(id int, ports int, count int) []string {
	x := newBox(id, ports)
	var list []string
	for range count {
		line := c.nextLine(x)
		list = append(list, line)
		x, _ = impl.DeskLine(x, line)
	}
	return list
}

func TestSessionIsLineByLine(t *testing.T) {
	told := map[string]int{}
	for seed := range 150 {
		c := &chooser{uint64(9000 + seed)}
		id, ports := 1+c.below(9), 1+c.below(4)
		list := c.script(id, ports, 60)
		for _, count := range []int{60, c.below(60), 1 + c.below(59)} {
			wantLineByLine(t, id, ports, list[:count])
			wantSessionAsPlain(t, id, ports, textOf(list[:count]))
		}
		said, _ := impl.Session(id, ports, textOf(list))
		for _, line := range strings.Split(said, "\n") {
			told[line]++
		}
	}
	for _, word := range []string{"ok", "none", "idle", "what", "yes"} {
		if told[word] < 50 {
			t.Errorf("%q only %d times", word, told[word])
		}
	}
}

// Whatever is asked amid a session, all else tells the same, and the box is the same behind it.
func TestAskingAmidASession(t *testing.T) {
	for seed := range 100 {
		c := &chooser{uint64(3000 + seed)}
		id, ports := 1+c.below(9), 1+c.below(4)
		x, y := newBox(id, ports), newBox(id, ports)
		for _, line := range c.script(id, ports, 40) {
			one, told := impl.DeskLine(x, line)
			for _, asks := range slices.Concat(askingLines, quietLines[:3], []string{"what", "up 01", "ship 5", "give 999999"}) {
				after, said := impl.DeskLine(y, asks)
				if !sameBox(after, y) || said == "ok" {
					t.Fatalf("%q turns %+v: %+v %q", asks, y, after, said)
				}
				y = after
			}
			other, again := impl.DeskLine(y, line)
			if told != again || !sameBox(one, other) {
				t.Fatalf("%q of %+v: %q, %q behind what asks", line, x, told, again)
			}
			if told != "ok" && !sameBox(one, x) {
				t.Fatalf("%q tells %q and turns %+v: %+v", line, told, x, one)
			}
			x, y = one, other
		}
	}
}

// Whatever a session does, the judge says yes: those who were taken from yield ahead of anything else.
func TestJudgeAmidASession(t *testing.T) {
	for seed := range 40 {
		c := &chooser{uint64(100 + seed)}
		id, ports := 1+c.below(9), 1+c.below(4)
		x := newBox(id, ports)
		for range 200 {
			line, ok := lineFor(yieldsFirst(x, lostToWhoMinded(x, c.nextDeed(x))))
			if !ok {
				continue
			}
			x, _ = impl.DeskLine(x, line)
			wantStays(t, x, "judge", "yes")
		}
	}
}

// What is asked twice of the same is answered twice the same, one session amid another one: nothing is kept.
func TestDeskKeepsNothing(t *testing.T) {
	boxes := []impl.Box{newBox(3, 2), lowBox(), plainBox(), fullBox(), fallenBox(), {}}
	for range 3 {
		for _, x := range boxes {
			for _, line := range slices.Concat(askingLines, quietLines, deedLines, moreLines, []string{"what", "up 01"}) {
				wantLineAsPlain(t, x, line)
				got, _ := impl.DeskLine(x, line)
				scrawlBox(got)
			}
		}
		wantSession(t, 3, 2, "up 0\nsay\nbridge", "ok\nok\n3\ndes shut 4 -\noff shut 0 -\n\n", 3)
		wantSession(t, 0, 2, "up 0\nsay\nbridge", "", -1)
		wantSession(t, 3, 2, "bridge", "3\noff shut 0 -\noff shut 0 -\n\n", 1)
	}
}

func TestSessionByManyAtOnce(t *testing.T) {
	c := &chooser{77}
	list := c.script(5, 3, 60)
	want, count, _ := plainSession(5, 3, textOf(list))
	var all sync.WaitGroup
	for range 12 {
		all.Go(func() {
			for range 5 {
				wantSession(t, 5, 3, textOf(list), want, count)
			}
		})
	}
	all.Wait()
}

func TestDeskLineWritesIntoNoArgument(t *testing.T) {
	lines := slices.Concat(askingLines, quietLines[:2], deedLines, moreLines, []string{"what", "up 01"})
	for _, x := range append(manyRooms(), roomy(impl.Box{}), roomy(impl.Box{Two: []impl.Minder{minding()}})) {
		kept := behind(x)
		for _, line := range lines {
			impl.DeskLine(x, line)
			if !sameBox(behind(x), kept) {
				t.Fatalf("%q writes into: %+v, was %+v", line, behind(x), kept)
			}
		}
	}
}

// What is answered is new memory, where nothing turns, too, and where it is no box.
func TestDeskLineSharesNoMemory(t *testing.T) {
	lines := slices.Concat(askingLines, quietLines[:2], deedLines, []string{"what", "up 01", "fall 0", "rise 0", "ship 1", "give 2"})
	for _, x := range append(manyRooms(), roomy(impl.Box{}), roomy(impl.Box{Two: []impl.Minder{minding()}, Gates: []bool{true}})) {
		for _, line := range lines {
			wantOwnAnswers(t, x, nil, func(x impl.Box, _ []impl.Deed) (impl.Box, []int) {
				got, _ := impl.DeskLine(x, line)
				return got, nil
			})
		}
	}
	// a text stays what it is whatever becomes of the box
	x := plainBox()
	_, box := impl.DeskLine(x, "box")
	_, bridge := impl.DeskLine(x, "bridge")
	kept := []string{strings.Clone(box), strings.Clone(bridge)}
	scrawlBox(x)
	if box != kept[0] || bridge != kept[1] {
		t.Errorf("%q %q, was %q", box, bridge, kept)
	}
}

// No two lists of one answer share memory, even where those that were handed in are one.
func TestListsBehindALineAreApart(t *testing.T) {
	for _, line := range slices.Concat(askingLines, quietLines[:2], deedLines, moreLines, []string{"what"}) {
		log := upLog(3)[:6]
		x := lowBox()
		x.Two[0].Log, x.Two[1].Log, x.Line, x.Net = log, log, log[:4], []impl.Wire{wireOf(0, 7, 6, tickIn())}
		got, _ := impl.DeskLine(x, line)
		wantApartInBox(t, got)
		bad, _ := impl.DeskLine(boxBent(x, func(x *impl.Box) { x.Id = 0; x.Two[0].Log, x.Two[1].Log, x.Line = log, log, log }), line)
		wantApartInBox(t, bad)
	}
}

func FuzzDesk(f *testing.F) {
	f.Add(uint64(1), 3, 2, "up 0\nship 0\ngive 0\ngive 0\npair 0\nsay\ntick\nbox\nfall 0\ntake 1\nclaim 0 1 0 1 2 0\nsay\nbridge\njudge\ntake 0\nlose 0\n# x\nhelp\nup\nup 01\n")
	f.Add(uint64(2), 9, 4, "\n\n#\nTick\ntick \n tick\nup  1\nship 1000000\nrise 1\nyield 0\nalone 0\ntwice 0")
	f.Add(uint64(3), 0, 5, "box\xff\n\xe2\x82\nbox")
	f.Add(uint64(4), 1, 1, strings.Repeat("tick\n", 61))
	f.Add(uint64(5), math.MaxInt, math.MinInt, "")
	f.Fuzz(func(t *testing.T, seed uint64, id int, ports int, lines string) {
		wantSessionAsPlain(t, id, ports, lines)
		wantSessionAsPlain(t, 1+id&7, 1+ports&3, lines)
		c := &chooser{seed}
		x := newBox(1+id&7, 1+ports&3)
		c.walk(x, c.below(200), c.nextDeed, func(_ impl.Box, _ impl.Deed, now impl.Box) { x = now })
		bent := c.bentBy(x)
		list := strings.Split(lines, "\n")
		for _, line := range append(list[:min(len(list), 80)], lines, c.nextLine(x)) {
			for _, x := range []impl.Box{x, bent} {
				kept := copyBox(x)
				wantLineAsPlain(t, x, line)
				if !sameBox(x, kept) {
					t.Errorf("%q writes into: %+v, was %+v", line, x, kept)
				}
			}
			x, _ = impl.DeskLine(x, line)
		}
	})
}
