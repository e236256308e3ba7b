package tests

import (
	"math"
	"slices"
	"testing"

	"loop.example/g00470/impl"
)

// verdict is all that the judge says of a box.
type verdict struct{ gates, said, logs, all, heir bool }

// likeOne is said of a box in which two are like one, and the other one could take.
var likeOne = verdict{gates: true, said: true, logs: true, all: true, heir: true}

func verdictOf(x impl.Box) verdict {
	return verdict{gates: impl.JudgeGates(x), said: impl.JudgeSaid(x), logs: impl.JudgeLogs(x), all: impl.JudgeAll(x), heir: impl.Heir(x)}
}

// plainVerdict says again what the chapter says.
func plainVerdict(x impl.Box) verdict {
	if !plainBoxOk(x) {
		return verdict{}
	}
	gates, said := oneBridge(x, x.Line)
	owner, other := x.Two[x.Reg.Owner], x.Two[1-x.Reg.Owner]
	v := verdict{gates: slices.Equal(gates, x.Gates), said: slices.Equal(said, x.Said), logs: true}
	v.heir = other.Up && other.Life != 0 && other.Life == x.Reg.Pair && other.Epoch == 0
	if plainMinds(x.Reg, x.Reg.Owner, owner) && (!plainBegins(owner.Log, x.Line) || owner.Said != len(x.Line)) {
		v.logs = false
	}
	if v.heir && !plainBegins(other.Log, x.Line) {
		v.logs = false
	}
	v.all = v.gates && v.said && v.logs
	return v
}

func plainBegins(log []impl.In, line []impl.In) bool {
	for at, in := range line {
		if at >= len(log) || log[at] != in {
			return false
		}
	}
	return true
}

func wantVerdict(t *testing.T, x impl.Box, want verdict) {
	t.Helper()
	if got := verdictOf(x); got != want {
		t.Errorf("of %+v: %+v, want %+v", x, got, want)
	}
}

func wantVerdictAsPlain(t *testing.T, x impl.Box) {
	t.Helper()
	wantVerdict(t, x, plainVerdict(x))
}

// but is v where these do not hold.
func (v verdict) but(turn func(*verdict)) verdict {
	turn(&v)
	v.all = v.gates && v.said && v.logs
	return v
}

func noGates(v *verdict) { v.gates = false }
func noSaid(v *verdict)  { v.said = false }
func noLogs(v *verdict)  { v.logs = false }
func noHeir(v *verdict)  { v.heir = false }

func storyLog() []impl.In {
	return []impl.In{
		linkIn(0, true), linkIn(1, true), tickIn(), tickIn(), tickIn(), tickIn(), claimIn(1, vecOf(1, 0, 1, 2), 0), tickIn(),
		linkIn(2, true), tickIn(), linkIn(0, false),
	}
}

// storyBox minds at 0: eleven came, minder 1 has ten, eight are released.
func storyBox(t *testing.T) impl.Box {
	t.Helper()
	x, log := newBox(3, 3), storyLog()
	for _, in := range log[:8] {
		x = behindAll(t, x, inDeed(in))
	}
	x = behindAll(t, x, slices.Concat(levelled(0, 8), []impl.Deed{deedOf(impl.DdPair, 0)})...)
	for _, in := range log[8:] {
		x = behindAll(t, x, inDeed(in))
	}
	x = behindAll(t, x, slices.Concat(levelled(0, 2), slices.Repeat([]impl.Deed{sayDeed()}, 8))...)
	if len(x.Line) != 8 || len(x.Two[0].Log) != 11 || len(x.Two[1].Log) != 10 || len(x.Said) < 10 || len(x.Said) > 38 || !slices.Contains(x.Gates, true) || !slices.Contains(x.Gates, false) {
		t.Fatalf("the story is another one: %+v", x)
	}
	return x
}

// lineBox is as one bridge is behind log, with nobody who could take.
func lineBox(id int, ports int, log []impl.In) impl.Box {
	x := newBox(id, ports)
	x.Line, x.Two[0].Log, x.Two[0].Said = slices.Clone(log), slices.Clone(log), len(log)
	x.Gates, x.Said = oneBridge(x, log)
	return x
}

// variedLog is one of which hardly the same is said twice: each tick tells how far the root is now.
func variedLog(count int) []impl.In {
	log := []impl.In{linkIn(0, true), linkIn(1, true), linkIn(2, true), linkIn(3, true)}
	for cost := 0; len(log) < count; cost++ {
		log = append(log, claimIn(1, vecOf(1, 1+cost%19, 2, 0), cost%8), tickIn())
	}
	return log[:count]
}

// wantBent asks of x, and of the same where the other one minds, that it is judged so once it is turned; s minds.
func wantBent(t *testing.T, x impl.Box, want verdict, turn func(x *impl.Box, s int)) {
	t.Helper()
	eachWay(x, func(x impl.Box, s int) {
		t.Helper()
		turn(&x, s)
		if !impl.BoxOk(x) {
			t.Fatalf("no box any more: %+v", x)
		}
		wantVerdict(t, x, want)
	})
}

func asItIs(*impl.Box, int) {}

// What is no box is not judged to be right in anything, even where nothing else fails.
func TestJudgeOfNoBox(t *testing.T) {
	for _, x := range bentBoxes() {
		wantVerdict(t, x, verdict{})
	}
	for _, n := range wildNumbers {
		wantVerdict(t, impl.Box{Id: n, Ports: n}, verdict{})
	}
	for _, x := range []impl.Box{storyBox(t), newBox(3, 2), lineBox(3, 4, variedLog(20))} {
		for _, turn := range []func(x *impl.Box, s int){
			func(x *impl.Box, s int) { x.Net = wiresOf(21) },
			func(x *impl.Box, s int) { x.Net = []impl.Wire{wireOf(2, 1, 1, tickIn())} },
			func(x *impl.Box, s int) { x.Net = []impl.Wire{{Ack: true, In: tickIn()}} },
			func(x *impl.Box, s int) { x.Two[s].AckLife = -1 },
			func(x *impl.Box, s int) { x.Two[s].Life = 100001 },
			func(x *impl.Box, s int) { x.Two[s].Acked = 61 },
			func(x *impl.Box, s int) { x.Two[s] = impl.Minder{Epoch: 1} },
			func(x *impl.Box, s int) { x.Two[1-s].AckLife = 100001 },
			func(x *impl.Box, s int) { x.Two[1-s].Said = len(x.Two[1-s].Log) + 1 },
			func(x *impl.Box, s int) { x.Two[1-s].Log = append(x.Two[1-s].Log, impl.In{}) },
			func(x *impl.Box, s int) { x.Two[s].Log = append(x.Two[s].Log, impl.In{Kind: 4}) },
			func(x *impl.Box, s int) { x.Two = append(x.Two, impl.Minder{}) },
			func(x *impl.Box, s int) { x.Two = x.Two[:1] },
			func(x *impl.Box, s int) { x.Two = nil },
			func(x *impl.Box, s int) { x.Reg.Epoch = 100001 },
			func(x *impl.Box, s int) { x.Reg.Epoch = 0 },
			func(x *impl.Box, s int) { x.Reg.Owner = 2 },
			func(x *impl.Box, s int) { x.Reg.Owner = -1 },
			func(x *impl.Box, s int) { x.Gates = append(x.Gates, false) },
			func(x *impl.Box, s int) { x.Gates = x.Gates[:1] },
			func(x *impl.Box, s int) { x.Line = append(x.Line, impl.In{}) },
			func(x *impl.Box, s int) { x.Said = outsFrom(0, 41) },
			func(x *impl.Box, s int) { x.Id = 10 },
			func(x *impl.Box, s int) { x.Ports = 0 },
		} {
			eachWay(x, func(x impl.Box, s int) {
				turn(&x, s)
				wantVerdict(t, x, verdict{})
			})
		}
	}
}

func TestJudgeOfANewBox(t *testing.T) {
	for id := 1; id <= 9; id++ {
		for ports := 1; ports <= 4; ports++ {
			wantBent(t, newBox(id, ports), likeOne.but(noHeir), asItIs)
		}
	}
}

// Told step by step what is said of a row of deeds, down to the one that takes.
func TestJudgeBehindARowOfDeeds(t *testing.T) {
	eachWay(newBox(3, 2), func(x impl.Box, s int) {
		to := 1 - s
		for at, step := range []struct {
			deed impl.Deed
			heir bool
		}{
			{inDeed(linkIn(0, true)), false}, {deedOf(impl.DdShip, s), false}, {deedOf(impl.DdGive, 0), false}, {deedOf(impl.DdGive, 0), false},
			{deedOf(impl.DdPair, s), true}, {sayDeed(), true}, {inDeed(tickIn()), true}, {deedOf(impl.DdShip, s), true}, {deedOf(impl.DdTwice, 0), true},
			{deedOf(impl.DdGive, 1), true}, {deedOf(impl.DdGive, 1), true}, {sayDeed(), true}, {inDeed(tickIn()), true}, {deedOf(impl.DdAlone, s), false}, {sayDeed(), false},
			{deedOf(impl.DdFall, to), false}, {deedOf(impl.DdRise, to), false}, {deedOf(impl.DdLose, 0), false},
			{deedOf(impl.DdShip, s), false}, {deedOf(impl.DdGive, 0), false}, {deedOf(impl.DdGive, 0), false}, {deedOf(impl.DdShip, s), false}, {deedOf(impl.DdGive, 0), false}, {deedOf(impl.DdGive, 0), false},
			{deedOf(impl.DdShip, s), false}, {deedOf(impl.DdGive, 0), false}, {deedOf(impl.DdGive, 0), false}, {deedOf(impl.DdPair, s), true},
			{inDeed(linkIn(1, true)), true}, {deedOf(impl.DdFall, s), true}, {deedOf(impl.DdTake, to), false},
			{inDeed(tickIn()), false}, {inDeed(tickIn()), false}, {sayDeed(), false}, {sayDeed(), false}, {deedOf(impl.DdRise, s), false}, {deedOf(impl.DdFall, s), false},
		} {
			x = behindAll(t, x, step.deed)
			want := likeOne
			want.heir = step.heir
			if got := verdictOf(x); got != want {
				t.Fatalf("step %d, %+v: %+v, want %+v, of %+v", at, step.deed, got, want, x)
			}
		}
		wantLikeOne(t, x, append([]impl.In{linkIn(0, true)}, slices.Repeat([]impl.In{tickIn()}, 4)...))
		if !x.Gates[0] {
			t.Fatalf("the gate is shut: %+v", x)
		}
	})
	wantBent(t, storyBox(t), likeOne, asItIs)
}

// Each gate by itself.
func TestJudgeGates(t *testing.T) {
	story := storyBox(t)
	for port := range 3 {
		wantBent(t, story, likeOne.but(noGates), func(x *impl.Box, _ int) { x.Gates[port] = !x.Gates[port] })
	}
	wantBent(t, story, likeOne.but(noGates), func(x *impl.Box, _ int) { x.Gates[0], x.Gates[1] = !x.Gates[0], !x.Gates[1] })
	for id := 1; id <= 9; id++ {
		for ports := 1; ports <= 4; ports++ {
			for port := range ports {
				wantBent(t, newBox(id, ports), likeOne.but(noHeir).but(noGates), func(x *impl.Box, _ int) { x.Gates[port] = true })
			}
		}
	}
}

// The gates of each beginning of what came, in all ways in which they can stand.
func TestJudgeGatesOfAll(t *testing.T) {
	open := map[int]int{}
	eachBridge(func(id int, ports int, log []impl.In) {
		log = slices.DeleteFunc(slices.Clone(log), func(x impl.In) bool { return !impl.InOk(x) })
		for n := 0; n <= len(log); n += 5 {
			x := lineBox(id, ports, log[:n])
			right := slices.Clone(x.Gates)
			for ways := range 1 << ports {
				for port := range ports {
					x.Gates[port] = ways>>port&1 == 1
				}
				if got := impl.JudgeGates(x); got != slices.Equal(x.Gates, right) {
					t.Fatalf("gates %v where %v is right: %v, of %+v", x.Gates, right, got, x)
				}
				if !impl.JudgeSaid(x) || !impl.JudgeLogs(x) || impl.JudgeAll(x) != impl.JudgeGates(x) {
					t.Fatalf("not the gates alone fail: %+v", x)
				}
			}
			for port, is := range right {
				open[port] += oneOf(is)
			}
		}
	})
	for port := range 4 {
		if open[port] < 10 {
			t.Errorf("port %d was open only %d times", port, open[port])
		}
	}
}

// What was said is judged to the last part of it.
func TestJudgeSaid(t *testing.T) {
	story := storyBox(t)
	said := story.Said
	wantNot := func(list []impl.Out) {
		t.Helper()
		wantBent(t, story, likeOne.but(noSaid), func(x *impl.Box, _ int) { x.Said = list })
	}
	wantBent(t, story, likeOne, func(x *impl.Box, _ int) { x.Said = slices.Clone(said) })
	wantNot(nil)
	wantNot(said[1:])
	wantNot(said[:len(said)-1])
	for at, out := range said {
		wantNot(slices.Delete(slices.Clone(said), at, at+1))
		// one more, there or at the end
		wantNot(slices.Insert(slices.Clone(said), at, out))
		wantNot(append(slices.Clone(said), out))
		for _, other := range []impl.Out{{}, {Kind: 3 - out.Kind, Port: out.Port, Vec: out.Vec, Hops: out.Hops, On: out.On}, {Kind: out.Kind, Port: out.Port + 1, Vec: out.Vec, Hops: out.Hops, On: out.On}, {Kind: out.Kind, Port: out.Port, Vec: vecOf(out.Vec.Root, out.Vec.Cost, out.Vec.Bridge, out.Vec.Port+1), Hops: out.Hops, On: out.On}, {Kind: out.Kind, Port: out.Port, Vec: out.Vec, Hops: out.Hops + 1, On: out.On}, {Kind: out.Kind, Port: out.Port, Vec: out.Vec, Hops: out.Hops, On: !out.On}} {
			list := slices.Clone(said)
			list[at] = other
			wantNot(list)
		}
		// two the other way round
		for other := range at {
			if said[other] != out {
				list := slices.Clone(said)
				list[at], list[other] = list[other], list[at]
				wantNot(list)
			}
		}
	}
	wantNot(append(slices.Clone(said), impl.Out{}))
	wantNot(append(slices.Clone(said), gateOut(0, true)))
	wantBent(t, newBox(3, 2), likeOne.but(noHeir).but(noSaid), func(x *impl.Box, _ int) { x.Said = []impl.Out{{}} })
	wantBent(t, newBox(3, 2), likeOne.but(noHeir), func(x *impl.Box, _ int) { x.Said = []impl.Out{} })
}

// Of more than there is room for, what was said first is left away: just so much of it.
func TestJudgeSaidBeyondItsRoom(t *testing.T) {
	below, at, beyond := 0, 0, 0
	for count := range 61 {
		for ports := 2; ports <= 4; ports++ {
			x := lineBox(5, ports, variedLog(count))
			_, told := plainTelling(5, ports, x.Line)
			all := slices.Concat(told...)
			below, at, beyond = below+oneOf(len(all) < 40), at+oneOf(len(all) == 40), beyond+oneOf(len(all) > 41)
			right := all[max(0, len(all)-40):]
			wantBent(t, x, likeOne.but(noHeir), asItIs)
			for from := range all {
				for _, to := range []int{from, from + 1, from + 39, from + 40, len(all) - 1, len(all)} {
					if to < from || to > len(all) || to-from > 40 {
						continue
					}
					x.Said = all[from:to]
					if got := impl.JudgeSaid(x); got != slices.Equal(x.Said, right) {
						t.Fatalf("from %d to %d of %d: %v", from, to, len(all), got)
					}
				}
			}
			// all of it is more than a box has
			x.Said = all
			wantVerdict(t, x, verdict{gates: len(all) <= 40, said: len(all) <= 40, logs: len(all) <= 40, all: len(all) <= 40})
		}
	}
	if below < 10 || at < 1 || beyond < 10 {
		t.Errorf("%d below the room, %d at it, %d beyond it", below, at, beyond)
	}
}

// parted is log with another one at that place.
func parted(log []impl.In, at int) []impl.In {
	log = slices.Clone(log)
	log[at] = linkIn(1, false)
	return log
}

// Who minds has what was said of as the beginning of its log, and is just behind it.
func TestJudgeLogsOfWhoMinds(t *testing.T) {
	story := storyBox(t)
	log := story.Two[0].Log
	for said := range 12 {
		want := likeOne
		if said != 8 {
			want = want.but(noLogs)
		}
		wantBent(t, story, want, func(x *impl.Box, s int) { x.Two[s].Said = said })
	}
	// shorter: as long as what was said of, or not
	for count := range 12 {
		want := likeOne
		if count < 8 {
			want = want.but(noLogs)
		}
		wantBent(t, story, want, func(x *impl.Box, s int) {
			x.Two[s].Log, x.Two[s].Said, x.Two[s].Acked = log[:count], min(count, 8), 0
		})
		// so many of what was said of, and other ones behind them
		wantBent(t, story, want, func(x *impl.Box, s int) {
			x.Two[s].Log = append(slices.Clone(log[:count]), slices.Repeat([]impl.In{linkIn(1, false)}, 20)...)
		})
	}
	for at := range log {
		want := likeOne
		if at < 8 {
			want = want.but(noLogs)
		}
		wantBent(t, story, want, func(x *impl.Box, s int) { x.Two[s].Log = parted(log, at) })
	}
	// what the other one is known to have, and in which life, is not asked
	for acked := range 12 {
		wantBent(t, story, likeOne, func(x *impl.Box, s int) { x.Two[s].Acked, x.Two[s].AckLife = acked, acked*9 })
	}
	// one more, or one less, in Line than who minds has said
	_, told := plainTelling(3, 3, log)
	for count := range 12 {
		gates, said := oneBridge(story, log[:count])
		want := likeOne
		if count != 8 {
			want = want.but(noLogs)
		}
		wantBent(t, story, want, func(x *impl.Box, _ int) { x.Line, x.Gates, x.Said = log[:count], gates, said })
	}
	if len(slices.Concat(told...)) > 40 {
		t.Error("the story is too long")
	}
}

// Where nobody minds, nobody has to have anything but who could take.
func TestJudgeLogsOfNobodyThatMinds(t *testing.T) {
	story := storyBox(t)
	nobody := []func(x *impl.Box, s int){
		func(x *impl.Box, s int) { x.Two[s] = impl.Minder{Life: 1} },
		func(x *impl.Box, s int) { x.Two[s] = impl.Minder{} },
		func(x *impl.Box, s int) { x.Two[s] = impl.Minder{Up: true, Life: 9} },
		func(x *impl.Box, s int) { x.Two[s].Epoch, x.Two[s].Said = 2, 3 },
		func(x *impl.Box, s int) { x.Two[s].Epoch, x.Two[s].Log = 0, parted(x.Two[s].Log, 0) },
		func(x *impl.Box, s int) { x.Reg.Epoch, x.Two[s].Log, x.Two[s].Said, x.Two[s].Acked = 2, nil, 0, 0 },
		func(x *impl.Box, s int) { x.Reg.Epoch, x.Two[s].Said = 100000, 11 },
	}
	for _, turn := range nobody {
		wantBent(t, story, likeOne, turn)
		wantBent(t, story, likeOne.but(noLogs), func(x *impl.Box, s int) {
			turn(x, s)
			x.Two[1-s].Log = x.Two[1-s].Log[:7]
		})
		wantBent(t, story, likeOne.but(noHeir), func(x *impl.Box, s int) {
			turn(x, s)
			x.Two[1-s] = impl.Minder{Life: 2}
		})
		wantBent(t, story, likeOne.but(noHeir), func(x *impl.Box, s int) {
			turn(x, s)
			x.Two[1-s].Log, x.Reg.Pair = nil, 0
		})
	}
	// both have the number of who minds, but one stands where the owner stands
	wantBent(t, story, likeOne.but(noHeir), func(x *impl.Box, s int) { x.Two[1-s].Epoch, x.Two[1-s].Log = x.Reg.Epoch, nil })
}

// Who could take has to have all that was said of; who could not has not.
func TestJudgeLogsOfTheOtherOne(t *testing.T) {
	story := storyBox(t)
	log := story.Two[1].Log
	logs := [][]impl.In{nil, log[:1], log[:7], log[:8], log[:9], log, append(slices.Clone(log[:8]), linkIn(1, false)), append(slices.Clone(log[:7]), linkIn(1, false)), append(slices.Clone(log[:7]), slices.Repeat([]impl.In{tickIn()}, 53)...)}
	for at := range log {
		logs = append(logs, parted(log, at))
	}
	right := 0
	for _, log := range logs {
		has := plainBegins(log, story.Line)
		right += oneOf(has)
		want := likeOne
		if !has {
			want = want.but(noLogs)
		}
		wantBent(t, story, want, func(x *impl.Box, s int) { x.Two[1-s].Log = log })
		// how much of it is said, and heard of, is not asked of this one
		wantBent(t, story, want, func(x *impl.Box, s int) {
			x.Two[1-s].Log, x.Two[1-s].Said, x.Two[1-s].Acked, x.Two[1-s].AckLife = log, len(log), len(log)/2, 5
		})
		// no heir, for one reason each
		for _, turn := range []func(x *impl.Box, s int){
			func(x *impl.Box, s int) { x.Two[1-s].Life = 3 },
			func(x *impl.Box, s int) { x.Two[1-s].Life = 1 },
			func(x *impl.Box, s int) { x.Two[1-s].Life = 0 },
			func(x *impl.Box, s int) { x.Two[1-s].Life, x.Reg.Pair = 0, 0 },
			func(x *impl.Box, s int) { x.Reg.Pair = 0 },
			func(x *impl.Box, s int) { x.Reg.Pair = 1 },
			func(x *impl.Box, s int) { x.Two[1-s].Epoch = 1 },
			func(x *impl.Box, s int) { x.Two[1-s].Epoch = 100000 },
			func(x *impl.Box, s int) { x.Two[1-s] = impl.Minder{Life: 2} },
		} {
			wantBent(t, story, likeOne.but(noHeir), func(x *impl.Box, s int) {
				x.Two[1-s].Log = log
				turn(x, s)
			})
		}
	}
	if right != 7 {
		t.Errorf("%d of %d logs have it", right, len(logs))
	}
	// where nothing was said, everybody has all of it
	for _, log := range logs {
		x := boxBent(newBox(3, 2), func(x *impl.Box) { x.Reg.Pair, x.Two[1].Log = 2, log })
		wantBent(t, x, likeOne, asItIs)
	}
}

// Each part alone, and each with each.
func TestJudgeAll(t *testing.T) {
	bends := []struct {
		turn  func(x *impl.Box, s int)
		fails func(*verdict)
	}{
		{func(x *impl.Box, _ int) { x.Gates[2] = !x.Gates[2] }, noGates},
		{func(x *impl.Box, _ int) { x.Said = x.Said[1:] }, noSaid},
		{func(x *impl.Box, s int) { x.Two[s].Said++ }, noLogs},
		{func(x *impl.Box, s int) { x.Two[s].Log = parted(x.Two[s].Log, 3) }, noLogs},
		{func(x *impl.Box, s int) { x.Two[1-s].Log = x.Two[1-s].Log[:7] }, noLogs},
	}
	for ways := range 1 << len(bends) {
		want := likeOne
		for at, bend := range bends {
			if ways>>at&1 == 1 {
				want = want.but(bend.fails)
			}
		}
		if want.all != (ways == 0) {
			t.Fatal("what fails is not told", ways)
		}
		wantBent(t, storyBox(t), want, func(x *impl.Box, s int) {
			for at, bend := range bends {
				if ways>>at&1 == 1 {
					bend.turn(x, s)
				}
			}
		})
	}
	// nobody needs an heir
	wantBent(t, storyBox(t), likeOne.but(noHeir), func(x *impl.Box, _ int) { x.Reg.Pair = 0 })
}

func TestHeir(t *testing.T) {
	story := storyBox(t)
	wantHeir := func(want bool, turn func(x *impl.Box, s int)) {
		t.Helper()
		eachWay(story, func(x impl.Box, s int) {
			turn(&x, s)
			if got := impl.Heir(x); got != want || !impl.BoxOk(x) {
				t.Errorf("Heir(%+v): %v", x, got)
			}
		})
	}
	wantHeir(true, asItIs)
	lives := []int{0, 1, 2, 3, 60, 99999, 100000}
	for _, life := range lives {
		for _, pair := range lives {
			for _, epoch := range lives {
				wantHeir(life == pair && life > 0 && epoch == 0, func(x *impl.Box, s int) {
					x.Two[1-s].Life, x.Reg.Pair, x.Two[1-s].Epoch = life, pair, epoch
				})
			}
			// one that is not Up
			wantHeir(false, func(x *impl.Box, s int) { x.Two[1-s], x.Reg.Pair = impl.Minder{Life: life}, pair })
			// who minds is of that life, the other one is not
			wantHeir(false, func(x *impl.Box, s int) { x.Two[s].Life, x.Two[1-s].Life, x.Reg.Pair = pair, (pair+1)%9, pair })
		}
	}
	// nothing else is asked
	for _, turn := range []func(x *impl.Box, s int){
		func(x *impl.Box, s int) { x.Two[s] = impl.Minder{} },
		func(x *impl.Box, s int) { x.Two[s] = impl.Minder{Up: true, Life: 2} },
		func(x *impl.Box, s int) { x.Two[s].Epoch = 7 },
		func(x *impl.Box, s int) { x.Reg.Epoch = 100000 },
		func(x *impl.Box, s int) { x.Two[1-s] = impl.Minder{Up: true, Life: 2} },
		func(x *impl.Box, s int) {
			x.Two[1-s] = impl.Minder{Up: true, Life: 2, Log: logOf(60, 5), Said: 60, Acked: 3, AckLife: 8}
		},
		func(x *impl.Box, s int) { x.Gates[0], x.Said, x.Line = !x.Gates[0], outsFrom(0, 40), logOf(60, 9) },
		func(x *impl.Box, s int) { x.Net = wiresOf(20) },
	} {
		wantHeir(true, turn)
	}
}

// Whoever is an heir by its place and its life takes, where it has all; nobody else does, but one that has minded: DdTake asks for no Epoch.
func TestHeirsTake(t *testing.T) {
	heirs := 0
	for _, life := range []int{0, 1, 2, 3} {
		for _, pair := range []int{0, 1, 2, 3} {
			for _, m := range []impl.Minder{{Life: life}, {Up: true, Life: life, Log: storyLog()}, {Up: true, Life: life, Log: storyLog()[:8]}, {Up: true, Life: life, Log: storyLog()[:7]}} {
				eachWay(storyBox(t), func(x impl.Box, s int) {
					x.Two[1-s], x.Reg.Pair = m, pair
					heir, logs := impl.Heir(x), impl.JudgeLogs(x)
					_, code := impl.Do(x, deedOf(impl.DdTake, 1-s))
					if (code == impl.CdDone) != (heir && logs) || (code == impl.CdIdle) != !heir || (code == impl.CdFull) != (heir && !logs) {
						t.Errorf("heir %v, logs %v, takes %d: %+v", heir, logs, code, x)
					}
					heirs += oneOf(heir)
				})
			}
		}
	}
	if heirs != 3*3*2 {
		t.Errorf("%d heirs", heirs)
	}
}

func TestJudgeAsTheChapterSays(t *testing.T) {
	for _, x := range slices.Concat(goodBoxes(), nobodyMinds(), []impl.Box{lowBox(), turnedBox(lowBox()), turnedBox(fullBox()), turnedBox(storyBox(t))}) {
		wantVerdictAsPlain(t, x)
		right := boxBent(x, func(x *impl.Box) { x.Gates, x.Said = oneBridge(*x, x.Line) })
		wantVerdictAsPlain(t, right)
		if !impl.JudgeGates(right) || !impl.JudgeSaid(right) {
			t.Errorf("as one bridge is, and not: %+v", right)
		}
	}
	for epoch := 1; epoch < 3; epoch++ {
		for pair := range 3 {
			eachSmallCouple(func(m impl.Minder, other impl.Minder) {
				x := lineBox(5, 4, logOf(1, 1))
				x.Reg, x.Two = regOf(epoch, 1, pair), []impl.Minder{m, other}
				wantVerdictAsPlain(t, x)
				x.Reg.Owner = 0
				wantVerdictAsPlain(t, x)
			})
		}
	}
}

// Line may have what is of no port that the bridge has: nothing is said of that.
func TestJudgeOfALineOfOtherPorts(t *testing.T) {
	for ports := 1; ports <= 4; ports++ {
		for seed := range 20 {
			x := lineBox(1+seed%9, ports, logOf(3*seed, seed))
			wantBent(t, x, likeOne.but(noHeir), asItIs)
		}
	}
}

// yieldsFirst leaves out the one row of deeds of which the judge says no (see TestJudgeOfWhoTakesBackUnyielded): who was taken from yields ahead of taking back.
func yieldsFirst(x impl.Box, d impl.Deed) impl.Deed {
	if d.Kind == impl.DdTake && (d.A == 0 || d.A == 1) && x.Two[d.A].Epoch != 0 {
		d.Kind = impl.DdYield
	}
	return d
}

// talkativeBox has both minders with a log of which more is said than there is room for.
func talkativeBox(t *testing.T, id int) impl.Box {
	t.Helper()
	x := newBox(id, 4)
	for _, in := range variedLog(50) {
		x = behindAll(t, x, inDeed(in))
	}
	return behindAll(t, x, append(levelled(0, 50), deedOf(impl.DdPair, 0))...)
}

// wantAllHold asks the judge, and holds what it says against one bridge that never fell.
func wantAllHold(t *testing.T, x impl.Box, behind ...impl.Deed) {
	t.Helper()
	for _, d := range behind {
		x, _ = impl.Do(x, d)
	}
	gates, said := oneBridge(x, x.Line)
	if !slices.Equal(x.Gates, gates) || !slices.Equal(x.Said, said) {
		t.Fatalf("not like one: %+v", x)
	}
	want := likeOne
	if want.heir = hasHeir(x); verdictOf(x) != want {
		t.Fatalf("%+v: %+v", verdictOf(x), x)
	}
}

// wantGoesOn lets minder s fall: where there is one that could take, it takes and says all that it has.
func wantGoesOn(t *testing.T, x impl.Box, s int) bool {
	t.Helper()
	fallen, code := impl.Do(x, deedOf(impl.DdFall, s))
	if code != impl.CdDone {
		return false
	}
	wantAllHold(t, fallen)
	if s != x.Reg.Owner || !impl.Heir(fallen) {
		return false
	}
	log := fallen.Two[1-s].Log
	wantAllHold(t, fallen, deedOf(impl.DdTake, 1-s))
	last := behindAll(t, fallen, append([]impl.Deed{deedOf(impl.DdTake, 1-s)}, slices.Repeat([]impl.Deed{sayDeed()}, len(log)-len(x.Line))...)...)
	wantAllHold(t, last)
	wantLikeOne(t, last, log)
	if !plainBegins(last.Line, x.Line) {
		t.Fatalf("what was said is not said any more: %+v, %+v", x, last)
	}
	return true
}

// Whichever of the two falls when, and whatever is lost, late or comes twice.
func TestWhicheverFallsWhen(t *testing.T) {
	wentOn, takes, yields, long := 0, 0, 0, 0
	for seed := range 120 {
		c := &chooser{uint64(7000 + seed)}
		choose := func(x impl.Box) impl.Deed { return yieldsFirst(x, c.nextDeed(x)) }
		first := newBox(1+c.below(9), 1+c.below(4))
		if seed%4 == 3 {
			first = talkativeBox(t, 1+c.below(9))
		}
		c.walk(first, 300, choose, func(_ impl.Box, d impl.Deed, x impl.Box) {
			wantAllHold(t, x)
			for s := range 2 {
				wentOn += oneOf(wantGoesOn(t, x, s))
			}
			takes, yields, long = takes+oneOf(d.Kind == impl.DdTake), yields+oneOf(d.Kind == impl.DdYield), long+oneOf(len(x.Said) == 40)
		})
	}
	if wentOn < 400 || takes < 100 || yields < 50 || long < 100 {
		t.Errorf("%d went on, %d took, %d yielded, %d times there was no room", wentOn, takes, yields, long)
	}
}

// Who was taken from says nothing that the gates listen to, whatever it says, in any box behind any row of deeds.
func TestJudgeOfWhoWasTakenFrom(t *testing.T) {
	spoke := 0
	for seed := range 60 {
		c := &chooser{uint64(8000 + seed)}
		choose := func(x impl.Box) impl.Deed { return yieldsFirst(x, c.nextDeed(x)) }
		c.walk(newBox(1+c.below(9), 1+c.below(4)), 300, choose, func(_ impl.Box, _ impl.Deed, x impl.Box) {
			other := 1 - x.Reg.Owner
			m := x.Two[other]
			if m.Epoch == 0 {
				return
			}
			for n := m.Said; n < len(m.Log); n++ {
				wantNoAccept(t, x, other, impl.Saying(x.Id, x.Ports, m.Log, n))
				spoke++
			}
			for port, open := range x.Gates {
				wantNoAccept(t, x, other, []impl.Out{gateOut(port, !open)})
			}
			said, _ := impl.Do(x, sayDeed())
			if said.Two[other].Said != m.Said || impl.Heir(x) {
				t.Fatalf("who was taken from is heard, or an heir: %+v", x)
			}
			wantAllHold(t, said)
		})
	}
	if spoke < 100 {
		t.Errorf("only %d were said by who was taken from", spoke)
	}
}

// By its words an Ack hangs on Life alone, and DdTake asks for no Epoch: one that was taken from, and has not yielded, tells how many it has of its own, and takes back. What it has is not what was said of, and the judge tells that.
func TestJudgeOfWhoTakesBackUnyielded(t *testing.T) {
	eachWay(newBox(3, 1), func(x impl.Box, s int) {
		to := 1 - s
		row := slices.Concat([]impl.Deed{inDeed(tickIn())}, levelled(s, 1), []impl.Deed{deedOf(impl.DdPair, s), inDeed(tickIn()), deedOf(impl.DdTake, to), inDeed(linkIn(0, true))}, levelled(to, 1), []impl.Deed{deedOf(impl.DdPair, to), sayDeed(), sayDeed()})
		for _, d := range row {
			x = behindAll(t, x, d)
			wantAllHold(t, x)
		}
		if impl.Heir(x) {
			t.Fatalf("it has not yielded: %+v", x)
		}
		x = behindAll(t, x, deedOf(impl.DdTake, s))
		wantVerdict(t, x, likeOne.but(noHeir).but(noLogs))
	})
}

// bentBy is x turned in one or two things that the judge looks at.
func (c *chooser) bentBy(x impl.Box) impl.Box {
	x = copyBox(x)
	for range 1 + c.below(2) {
		m := &x.Two[c.below(2)]
		switch c.below(14) {
		case 0:
			port := c.below(len(x.Gates))
			x.Gates[port] = !x.Gates[port]
		case 1:
			x.Said = x.Said[min(1, len(x.Said)):]
		case 2:
			x.Said = x.Said[:max(0, len(x.Said)-1)]
		case 3:
			x.Said = append(x.Said, gateOut(c.below(4), true))
		case 4:
			m.Said = max(0, m.Said-1)
		case 5:
			m.Said = min(m.Said+1, len(m.Log))
		case 6:
			if len(m.Log) > 0 {
				m.Log[c.below(len(m.Log))] = c.nextIn()
			}
		case 7:
			m.Log = m.Log[:max(len(m.Log)-1, m.Said, m.Acked)]
		case 8:
			x.Line = x.Line[:max(0, len(x.Line)-1)]
		case 9:
			x.Line = append(x.Line, c.nextIn())
		case 10:
			x.Reg.Pair = x.Two[c.below(2)].Life
		case 11:
			x.Reg.Epoch = max(1, x.Reg.Epoch+c.below(3)-1)
		case 12:
			x.Reg.Owner = 1 - x.Reg.Owner
		default:
			*m = impl.Minder{Life: m.Life}
		}
	}
	return x
}

// What comes by deeds, and is turned then, is judged as the chapter says; each of it fails often enough, and holds.
func TestJudgeOfTurnedBoxes(t *testing.T) {
	failed := map[string]int{}
	for seed := range 60 {
		c := &chooser{uint64(9000 + seed)}
		c.walk(newBox(1+c.below(9), 1+c.below(4)), 300, c.nextDeed, func(_ impl.Box, _ impl.Deed, x impl.Box) {
			wantVerdictAsPlain(t, x)
			bent := c.bentBy(x)
			wantVerdictAsPlain(t, bent)
			v := verdictOf(bent)
			failed["gates"] += oneOf(!v.gates && v.said && v.logs)
			failed["said"] += oneOf(v.gates && !v.said && v.logs)
			failed["logs"] += oneOf(v.gates && v.said && !v.logs)
			failed["none"] += oneOf(v.all)
			failed["heir"] += oneOf(v.heir)
		})
		if t.Failed() {
			t.FailNow()
		}
	}
	for _, name := range []string{"gates", "said", "logs", "none", "heir"} {
		if failed[name] < 200 {
			t.Errorf("%s: only %d times", name, failed[name])
		}
	}
}

// What is asked twice of the same is answered twice the same: nothing is kept.
func TestJudgeKeepsNothing(t *testing.T) {
	boxes := []impl.Box{storyBox(t), newBox(3, 2), boxBent(storyBox(t), func(x *impl.Box) { x.Gates[0] = !x.Gates[0] }), {}, fullBox(), lineBox(3, 4, variedLog(60))}
	for range 3 {
		for _, x := range boxes {
			wantVerdictAsPlain(t, x)
		}
	}
}

func TestJudgeWritesIntoNoArgument(t *testing.T) {
	boxes := manyRooms()
	for _, x := range []impl.Box{storyBox(t), lineBox(3, 4, variedLog(60)), lineBox(3, 4, variedLog(30)), lineBox(5, 2, variedLog(7)), newBox(1, 1)} {
		boxes = append(boxes, roomy(x), roomy(turnedBox(x)), roomy(boxBent(x, func(x *impl.Box) { x.Gates[0] = !x.Gates[0] })), roomy(boxBent(x, func(x *impl.Box) { x.Said = outsFrom(0, 40) })))
	}
	for _, x := range boxes {
		kept := behind(x)
		first := verdictOf(x)
		if !sameBox(behind(x), kept) {
			t.Fatalf("written into: %+v, was %+v", behind(x), kept)
		}
		// what stands behind the lists is not looked at, either
		wantVerdict(t, copyBox(x), first)
	}
}

// One list may be the log of both, and what was said of, too.
func TestJudgeOfOneList(t *testing.T) {
	log := variedLog(12)
	x := lineBox(5, 3, log)
	x.Two[0].Log, x.Two[1].Log, x.Line, x.Reg.Pair = log, log, log, 2
	wantVerdict(t, x, likeOne)
	x.Two[1].Log = log[:11]
	wantVerdict(t, x, likeOne.but(noLogs))
	x.Two[0].Log, x.Two[0].Said = log[:11], 11
	wantVerdict(t, x, likeOne.but(noLogs))
}

func FuzzJudge(f *testing.F) {
	f.Add(uint64(1), uint8(40), 3, 1, 0, 2, uint8(1), 0, 7)
	f.Add(uint64(2), uint8(200), 0, 100000, 1, 0, uint8(0), 1, 100000)
	f.Add(uint64(3), uint8(0), -1, -1, 2, -1, uint8(5), math.MaxInt, math.MinInt)
	f.Fuzz(func(t *testing.T, seed uint64, steps uint8, life int, epoch int, owner int, pair int, gate uint8, said int, number int) {
		c := &chooser{seed}
		x := newBox(1+c.below(9), 1+c.below(4))
		c.walk(x, int(steps), func(x impl.Box) impl.Deed { return yieldsFirst(x, c.nextDeed(x)) }, func(_ impl.Box, _ impl.Deed, now impl.Box) { x = now })
		wantAllHold(t, x)
		for _, x := range []impl.Box{
			x, c.bentBy(x), c.bentBy(c.bentBy(x)),
			boxBent(x, func(x *impl.Box) { x.Reg = regOf(epoch, owner, pair) }),
			boxBent(x, func(x *impl.Box) { x.Reg.Pair, x.Two[1-x.Reg.Owner].Life = pair&7, life&7 }),
			boxBent(x, func(x *impl.Box) { x.Two[seed&1].Life, x.Two[seed&1].Epoch = life, epoch }),
			boxBent(x, func(x *impl.Box) { x.Two[seed&1].Said, x.Two[1-seed&1].Epoch = said, number }),
			boxBent(x, func(x *impl.Box) { x.Gates[int(gate)%len(x.Gates)] = gate&64 == 0 }),
			boxBent(x, func(x *impl.Box) { x.Line = logOf(int(steps)%63, int(gate)) }),
		} {
			kept := copyBox(x)
			wantVerdictAsPlain(t, x)
			if !sameBox(x, kept) {
				t.Errorf("was written into: %+v, was %+v", x, kept)
			}
		}
	})
}
