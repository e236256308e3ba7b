package tests

import (
	"math"
	"slices"
	"testing"

	"loop.example/g00470/impl"
)

// noNumbers are no places in any list of a net.
var noNumbers = []int{math.MinInt, math.MinInt + 1, -1 << 32, -256, -7, -6, -5, -2, -1, 7, 8, 255, 256, 257, 1 << 32, 1<<32 + 1, math.MaxInt - 1, math.MaxInt}

// madeOf is a net of such links, where each letter tells how one of them is: o open at both ends, a at its A alone, b at its B alone, s at none.
func madeOf(count int, links []impl.Link, letters string) impl.Net {
	return madeBy(idsOf(count, 0), links, letters)
}

func madeBy(ids []int, links []impl.Link, letters string) impl.Net {
	n, _ := impl.NetNew(ids, links)
	for at, l := range links {
		n.Bridges[l.A].Ports[l.P] = portThatIs(letters[at] == 'o' || letters[at] == 'a', at)
		n.Bridges[l.B].Ports[l.Q] = portThatIs(letters[at] == 'o' || letters[at] == 'b', at+1)
	}
	return n
}

// portThatIs is open, or shut, for one of the reasons there are.
func portThatIs(open bool, turn int) impl.Port {
	if open {
		return []impl.Port{portFor(impl.RoDes, 0), portFor(impl.RoRoot, 0)}[turn%2]
	}
	return []impl.Port{portFor(impl.RoAlt, 0), portFor(impl.RoDes, 1), portFor(impl.RoRoot, 4), portFor(impl.RoAlt, 2)}[turn%4]
}

// eachMade hands on all ways in which such links can be open and shut.
func eachMade(count int, links []impl.Link, letters string, look func(n impl.Net, letters string)) {
	if len(letters) == len(links) {
		look(madeOf(count, links, letters), letters)
		return
	}
	for _, letter := range []string{"o", "a", "b", "s"} {
		eachMade(count, links, letters+letter, look)
	}
}

// row has so many bridges in a line, a ring has a link more.
func row(count int) []impl.Link {
	var links []impl.Link
	for at := 1; at < count; at++ {
		links = append(links, impl.Link{A: at - 1, P: 0, B: at, Q: 1})
	}
	return links
}

func ring(count int) []impl.Link {
	return append(row(count), impl.Link{A: count - 1, P: 0, B: 0, Q: 1})
}

// pairs are so many links between the same two, told from either end in turn.
func pairs(count int) []impl.Link {
	return linksOf(0, 0, 1, 0, 1, 1, 0, 1, 0, 2, 1, 2, 1, 3, 0, 3)[:count]
}

// plainPasses, and the plain ones behind it, say again what the chapter says.
func plainPasses(n impl.Net, link int) bool {
	if !plainNetOk(n) || link < 0 || link >= len(n.Links) {
		return false
	}
	l := n.Links[link]
	return n.Bridges[l.A].Ports[l.P].Open && n.Bridges[l.B].Ports[l.Q].Open
}

// joined tells who can come to whom over those links that count: step by step, over each bridge between.
func joined(n impl.Net, counts func(link int) bool) [5][5]bool {
	var ways [5][5]bool
	for at := range n.Bridges {
		ways[at][at] = true
	}
	for at, l := range n.Links {
		if counts(at) {
			ways[l.A][l.B], ways[l.B][l.A] = true, true
		}
	}
	for between := range 5 {
		for a := range 5 {
			for b := range 5 {
				ways[a][b] = ways[a][b] || ways[a][between] && ways[between][b]
			}
		}
	}
	return ways
}

func plainWays(n impl.Net, all bool) [5][5]bool {
	return joined(n, func(link int) bool { return all || plainPasses(n, link) })
}

func plainReach(n impl.Net, from int, all bool) []int {
	if !plainNetOk(n) || from < 0 || from >= len(n.Bridges) {
		return nil
	}
	var list []int
	for bridge, can := range plainWays(n, all)[from] {
		if can {
			list = append(list, bridge)
		}
	}
	return list
}

func plainRingless(n impl.Net) bool {
	if !plainNetOk(n) {
		return false
	}
	for at, l := range n.Links {
		if plainPasses(n, at) && joined(n, func(link int) bool { return link != at && plainPasses(n, link) })[l.A][l.B] {
			return false
		}
	}
	return true
}

func plainSpans(n impl.Net) bool {
	return plainNetOk(n) && plainWays(n, false) == plainWays(n, true)
}

func plainRoots(n impl.Net) []int {
	var list []int
	for at, b := range n.Bridges {
		if plainRootPort(b) < 0 {
			list = append(list, at)
		}
	}
	return list
}

func plainIsTree(n impl.Net) bool {
	if !plainRingless(n) || !plainSpans(n) {
		return false
	}
	least, _ := farFrom(n)
	for _, root := range plainRoots(n) {
		if least[root] != n.Bridges[root].Id {
			return false
		}
	}
	return true
}

// partsBy counts those that none of the open links, or of all, joins.
func partsBy(n impl.Net, all bool) int {
	var firsts []int
	for at := range n.Bridges {
		if first := impl.Reach(n, at, all)[0]; !slices.Contains(firsts, first) {
			firsts = append(firsts, first)
		}
	}
	return len(firsts)
}

func wantPasses(t *testing.T, n impl.Net, want ...bool) {
	t.Helper()
	for link, is := range want {
		if got := impl.Passes(n, link); got != is {
			t.Errorf("Passes(%+v, %d): %v", n, link, got)
		}
	}
	for _, link := range append(slices.Clone(noNumbers), len(n.Links)) {
		if impl.Passes(n, link) {
			t.Errorf("Passes(%+v, %d): true", n, link)
		}
	}
}

func wantReach(t *testing.T, n impl.Net, from int, all bool, want ...int) {
	t.Helper()
	if got := impl.Reach(n, from, all); !slices.Equal(got, want) {
		t.Errorf("Reach(%+v, %d, %v): %v, want %v", n, from, all, got, want)
	}
}

func wantRoots(t *testing.T, n impl.Net, want ...int) {
	t.Helper()
	if got := impl.Roots(n); !slices.Equal(got, want) {
		t.Errorf("Roots(%+v): %v, want %v", n, got, want)
	}
}

func wantRingless(t *testing.T, n impl.Net, want bool) {
	t.Helper()
	if got := impl.Ringless(n); got != want {
		t.Errorf("Ringless(%+v): %v", n, got)
	}
}

func wantSpans(t *testing.T, n impl.Net, want bool) {
	t.Helper()
	if got := impl.Spans(n); got != want {
		t.Errorf("Spans(%+v): %v", n, got)
	}
}

func wantIsTree(t *testing.T, n impl.Net, want bool) {
	t.Helper()
	if got := impl.IsTree(n); got != want {
		t.Errorf("IsTree(%+v): %v", n, got)
	}
}

// wantTreeAsPlain holds all of the chapter against what it says.
func wantTreeAsPlain(t *testing.T, n impl.Net) {
	t.Helper()
	for link := -1; link <= len(n.Links); link++ {
		if got := impl.Passes(n, link); got != plainPasses(n, link) {
			t.Errorf("Passes(%+v, %d): %v", n, link, got)
		}
	}
	for from := -1; from <= len(n.Bridges); from++ {
		wantReach(t, n, from, false, plainReach(n, from, false)...)
		wantReach(t, n, from, true, plainReach(n, from, true)...)
	}
	wantRingless(t, n, plainRingless(n))
	wantSpans(t, n, plainSpans(n))
	wantRoots(t, n, plainRoots(n)...)
	wantIsTree(t, n, plainIsTree(n))
}

// wantTree asks that n, settled, leads each way once, leaves out nobody, and has one root in each part, the least there.
func wantTree(t *testing.T, n impl.Net) {
	t.Helper()
	wantIsTree(t, n, true)
	wantRingless(t, n, true)
	wantSpans(t, n, true)
	open := 0
	for link := range n.Links {
		if impl.Passes(n, link) {
			open++
		}
	}
	parts := partsBy(n, true)
	if open != len(n.Bridges)-parts || partsBy(n, false) != parts || len(impl.Roots(n)) != parts {
		t.Errorf("%d open links, %d parts, %d by what is open, roots %v: %+v", open, parts, partsBy(n, false), impl.Roots(n), n)
	}
	least, _ := farFrom(n)
	for at, b := range n.Bridges {
		if slices.Contains(impl.Roots(n), at) != (least[at] == b.Id) {
			t.Errorf("Roots(%+v): %v", n, impl.Roots(n))
		}
	}
}

func TestPasses(t *testing.T) {
	wantPasses(t, madeOf(2, row(2), "o"), true)
	wantPasses(t, madeOf(2, row(2), "a"), false)
	wantPasses(t, madeOf(2, row(2), "b"), false)
	wantPasses(t, madeOf(2, row(2), "s"), false)
	wantPasses(t, madeOf(5, ring(5), "obsao"), true, false, false, false, true)
	wantPasses(t, madeOf(2, pairs(4), "saob"), false, false, true, false)
	// the limit of links
	wantPasses(t, madeOf(4, shapes[16].links, "oooooo"), true, true, true, true, true, true)
	wantPasses(t, madeOf(4, shapes[16].links, "abosbo"), false, false, true, false, false, true)
	// whatever it is open for, or shut, at either end
	for _, p := range slices.Concat(bareUpPorts(), claimedPorts()) {
		for _, q := range bareUpPorts() {
			for _, pair := range [][2]impl.Port{{p, q}, {q, p}} {
				n := impl.Net{Bridges: []impl.Bridge{bridgeOf(9, pair[0]), bridgeOf(8, impl.Port{}, pair[1])}, Links: linksOf(0, 0, 1, 1)}
				if got := impl.Passes(n, 0); got != (p.Open && q.Open) {
					t.Errorf("Passes(%+v, 0): %v", n, got)
				}
			}
		}
	}
}

func TestPassesOfNoLink(t *testing.T) {
	none, _ := impl.NetNew([]int{3, 1}, nil)
	wantPasses(t, none, false)
	for _, s := range shapes {
		n := madeOf(s.count, s.links, "oooooo")
		wantPasses(t, n)
		for link := range 8 {
			if impl.Passes(n, link) != (link < len(s.links)) {
				t.Errorf("Passes(%+v, %d): %v", n, link, !(link < len(s.links)))
			}
		}
	}
}

// A port that the link does not name says nothing of it, though it has the number of one that does.
func TestPassesAsksItsOwnPorts(t *testing.T) {
	n, _ := impl.NetNew([]int{3, 1, 2}, linksOf(0, 2, 1, 1, 1, 2, 2, 1))
	open := portFor(impl.RoDes, 0)
	n.Bridges[0].Ports[2], n.Bridges[1].Ports[1] = open, open
	wantPasses(t, n, true, false)
	n.Bridges[1].Ports[1], n.Bridges[1].Ports[2] = portFor(impl.RoAlt, 0), open
	wantPasses(t, n, false, false)
	n.Bridges[2].Ports[1] = open
	wantPasses(t, n, false, true)
}

func TestReachOfOneAlone(t *testing.T) {
	n, _ := impl.NetNew([]int{3}, nil)
	for _, all := range []bool{false, true} {
		wantReach(t, n, 0, all, 0)
		wantReach(t, n, 1, all)
		wantReach(t, n, -1, all)
	}
	// each of several that no link joins
	n, _ = impl.NetNew([]int{3, 1, 2, 9, 8}, nil)
	for from := range 5 {
		wantReach(t, n, from, false, from)
		wantReach(t, n, from, true, from)
	}
}

func TestReachOfARow(t *testing.T) {
	n := madeOf(5, row(5), "oboo")
	for from := range 5 {
		wantReach(t, n, from, true, 0, 1, 2, 3, 4)
	}
	for _, from := range []int{0, 1} {
		wantReach(t, n, from, false, 0, 1)
	}
	for _, from := range []int{2, 3, 4} {
		wantReach(t, n, from, false, 2, 3, 4)
	}
	// with links told in an order in which each leads on only behind the next one
	slices.Reverse(n.Links)
	for from := range 5 {
		wantReach(t, n, from, true, 0, 1, 2, 3, 4)
	}
	wantReach(t, n, 0, false, 0, 1)
	wantReach(t, n, 4, false, 2, 3, 4)
	// and not in the order of the bridges
	n = madeOf(5, shapes[10].links, "ooos")
	wantReach(t, n, 4, true, 0, 1, 2, 3, 4)
	wantReach(t, n, 4, false, 0, 1, 2, 4)
	wantReach(t, n, 1, false, 0, 1, 2, 4)
	wantReach(t, n, 3, false, 3)
}

func TestReachOfARing(t *testing.T) {
	for count := 3; count <= 5; count++ {
		everybody := []int{0, 1, 2, 3, 4}[:count]
		for from := range count {
			wantReach(t, madeOf(count, ring(count), "ooooo"), from, true, everybody...)
			wantReach(t, madeOf(count, ring(count), "ooooo"), from, false, everybody...)
			wantReach(t, madeOf(count, ring(count), "sssss"), from, true, everybody...)
			wantReach(t, madeOf(count, ring(count), "sabss"), from, false, from)
			// one that is shut leaves out nobody, two do
			wantReach(t, madeOf(count, ring(count), "osooo"), from, false, everybody...)
		}
	}
	n := madeOf(5, ring(5), "osoao")
	wantReach(t, n, 0, false, 0, 1, 4)
	wantReach(t, n, 4, false, 0, 1, 4)
	wantReach(t, n, 2, false, 2, 3)
}

func TestReachOfTwoThatNoLinkJoins(t *testing.T) {
	n := madeOf(5, linksOf(0, 0, 3, 0, 4, 0, 1, 0), "oo")
	for _, all := range []bool{false, true} {
		wantReach(t, n, 0, all, 0, 3)
		wantReach(t, n, 3, all, 0, 3)
		wantReach(t, n, 1, all, 1, 4)
		wantReach(t, n, 4, all, 1, 4)
		wantReach(t, n, 2, all, 2)
	}
	n = madeOf(5, linksOf(0, 0, 3, 0, 4, 0, 1, 0), "so")
	wantReach(t, n, 3, true, 0, 3)
	wantReach(t, n, 3, false, 3)
	wantReach(t, n, 1, false, 1, 4)
}

func TestReachOfLinksBetweenTheSameTwo(t *testing.T) {
	for _, letters := range []string{"os", "so", "oo", "ao", "ob", "sso", "oss", "bsao", "abos"} {
		n := madeOf(2, pairs(len(letters)), letters)
		for from := range 2 {
			wantReach(t, n, from, false, 0, 1)
			wantReach(t, n, from, true, 0, 1)
		}
	}
	// open at one end of one link and at the other end of another one: none of them is open
	for _, letters := range []string{"ss", "ab", "ba", "aa", "bb", "sab", "abab"} {
		n := madeOf(2, pairs(len(letters)), letters)
		for from := range 2 {
			wantReach(t, n, from, false, from)
			wantReach(t, n, from, true, 0, 1)
		}
	}
}

func TestReachFromNobody(t *testing.T) {
	for _, s := range shapes {
		n := madeOf(s.count, s.links, "oooooo")
		for _, from := range append(slices.Clone(noNumbers), s.count, s.count+1, 5, 6) {
			wantReach(t, n, from, false)
			wantReach(t, n, from, true)
		}
	}
}

// Neither a number of a link nor an Id is one of a bridge.
func TestReachTellsNumbers(t *testing.T) {
	n := madeBy([]int{9, 8, 7}, linksOf(2, 0, 1, 0), "o")
	wantReach(t, n, 1, false, 1, 2)
	wantReach(t, n, 2, true, 1, 2)
	wantReach(t, n, 0, true, 0)
	for id := 3; id < 10; id++ {
		wantReach(t, n, id, true)
	}
}

// Ascending, none twice, oneself among them; who can be come to comes back, and to whom both come they come alike.
func TestReachGoesBothWays(t *testing.T) {
	for _, n := range slices.Concat(newNets(), anyNets(2000)) {
		for from := range n.Bridges {
			for _, all := range []bool{false, true} {
				list := impl.Reach(n, from, all)
				for at := 1; at < len(list); at++ {
					if list[at] <= list[at-1] {
						t.Fatalf("Reach(%+v, %d, %v): %v does not ascend", n, from, all, list)
					}
				}
				if !slices.Contains(list, from) {
					t.Fatalf("Reach(%+v, %d, %v): %v, without it", n, from, all, list)
				}
				for _, other := range list {
					wantReach(t, n, other, all, list...)
				}
			}
			for _, other := range impl.Reach(n, from, false) {
				if !slices.Contains(impl.Reach(n, from, true), other) {
					t.Fatalf("Reach(%+v, %d): %d by what is open alone", n, from, other)
				}
			}
		}
	}
}

func TestRingless(t *testing.T) {
	for _, s := range shapes {
		// nothing is open
		for _, letters := range []string{"ssssss", "aaaaaa", "bbbbbb", "ababab", "absbas"} {
			wantRingless(t, madeOf(s.count, s.links, letters), true)
		}
		// as many open links as it takes to join all are no ring, one more is one
		n := madeOf(s.count, s.links, "oooooo")
		wantRingless(t, n, len(s.links) == s.count-partsBy(n, true))
	}
	for count := 3; count <= 5; count++ {
		wantRingless(t, madeOf(count, row(count), "oooo"), true)
		wantRingless(t, madeOf(count, ring(count), "ooooo"), false)
		for at := range count {
			letters := []byte("ooooo")
			for _, letters[at] = range []byte("abs") {
				wantRingless(t, madeOf(count, ring(count), string(letters)), true)
			}
		}
	}
	// a ring that not all are of: a tail, and one that is nowhere near
	tailed := append(ring(3), linksOf(2, 2, 3, 0, 3, 1, 4, 0)...)
	wantRingless(t, madeOf(5, tailed, "ooooo"), false)
	wantRingless(t, madeOf(5, tailed, "oooss"), false)
	wantRingless(t, madeOf(5, tailed, "osooo"), true)
	apart := linksOf(0, 0, 1, 0, 2, 0, 3, 0, 3, 1, 4, 0, 4, 1, 2, 1)
	wantRingless(t, madeOf(5, apart, "oooo"), false)
	wantRingless(t, madeOf(5, apart, "sooo"), false)
	wantRingless(t, madeOf(5, apart, "ooob"), true)
	// two rings at one bridge: neither may be open
	both := shapes[17].links
	for letters, want := range map[string]bool{"oooooo": false, "osoooo": false, "ooooso": false, "osooos": true, "sooaoo": true} {
		wantRingless(t, madeOf(5, both, letters), want)
	}
}

func TestRinglessOfLinksBetweenTheSameTwo(t *testing.T) {
	for letters, want := range map[string]bool{
		"o": true, "s": true, "oo": false, "os": true, "so": true, "oa": true, "bo": true, "ab": true, "ss": true,
		"ooo": false, "oos": false, "oso": false, "soo": false, "oss": true, "sso": true,
		"oooo": false, "soso": false, "ossa": true, "abos": true,
	} {
		wantRingless(t, madeOf(2, pairs(len(letters)), letters), want)
	}
	// beside others
	links := linksOf(0, 0, 1, 0, 1, 1, 2, 0, 2, 1, 1, 2)
	for letters, want := range map[string]bool{"ooo": false, "soo": false, "oos": true, "oso": true, "osb": true} {
		wantRingless(t, madeOf(3, links, letters), want)
		wantSpans(t, madeOf(3, links, letters), letters != "osb" && letters[0] == 'o')
	}
	// told from the same end, and from the other one
	for _, links := range [][]impl.Link{linksOf(0, 0, 1, 0, 0, 1, 1, 1), linksOf(0, 0, 1, 0, 1, 1, 0, 1), linksOf(1, 3, 0, 0, 1, 0, 0, 3)} {
		wantRingless(t, madeOf(2, links, "oo"), false)
		wantRingless(t, madeOf(2, links, "os"), true)
	}
}

func TestSpans(t *testing.T) {
	for _, s := range shapes {
		wantSpans(t, madeOf(s.count, s.links, "oooooo"), true)
		for _, letters := range []string{"ssssss", "aaaaaa", "bbbbbb", "ababab"} {
			wantSpans(t, madeOf(s.count, s.links, letters), len(s.links) == 0)
		}
	}
	for count := 2; count <= 5; count++ {
		wantSpans(t, madeOf(count, row(count), "oooo"), true)
		for at := range count - 1 {
			letters := []byte("oooo")
			for _, letters[at] = range []byte("abs") {
				wantSpans(t, madeOf(count, row(count), string(letters)), false)
			}
		}
	}
	// a ring that is shut once is whole, twice it is not
	for count := 3; count <= 5; count++ {
		for first := range count {
			letters := []byte("ooooo")
			letters[first] = 's'
			wantSpans(t, madeOf(count, ring(count), string(letters)), true)
			for second := range count {
				if second == first {
					continue
				}
				letters[second] = 'a'
				wantSpans(t, madeOf(count, ring(count), string(letters)), false)
				letters[second] = 'o'
			}
		}
	}
	// two parts: what is shut in either counts, that no link joins them does not
	apart := linksOf(0, 0, 3, 0, 4, 0, 1, 0)
	for letters, want := range map[string]bool{"oo": true, "os": false, "so": false, "ss": false, "ao": false} {
		wantSpans(t, madeOf(5, apart, letters), want)
	}
	// between the same two one is enough
	for letters, want := range map[string]bool{"oo": true, "os": true, "so": true, "ss": false, "ab": false, "sso": true, "abab": false, "aboa": true} {
		wantSpans(t, madeOf(2, pairs(len(letters)), letters), want)
	}
}

func TestRootsOfNewOnes(t *testing.T) {
	for _, n := range newNets() {
		wantRoots(t, n, []int{0, 1, 2, 3, 4}[:len(n.Bridges)]...)
	}
	wantRoots(t, impl.Net{})
}

func TestRootsOfWhatIsSettled(t *testing.T) {
	wantRoots(t, impl.Settle(ringNet(), 30), 1)
	n, _ := impl.NetNew([]int{7, 2, 5, 9, 4}, linksOf(0, 0, 3, 0, 4, 0, 1, 0))
	wantRoots(t, n, 0, 1, 2, 3, 4)
	wantRoots(t, impl.Settle(n, 30), 0, 1, 2)
	n, _ = impl.NetNew([]int{7, 2, 5, 9, 4}, linksOf(0, 0, 3, 0, 4, 0, 2, 0))
	wantRoots(t, impl.Settle(n, 30), 0, 1, 4)
	n, _ = impl.NetNew([]int{7, 2, 5, 9, 4}, nil)
	wantRoots(t, impl.Settle(n, 30), 0, 1, 2, 3, 4)
	// in the first round each comes to follow the one beside it
	now, _ := impl.NetNew([]int{5, 4, 3, 2, 1}, row(5))
	for _, want := range [][]int{{0, 1, 2, 3, 4}, {4}, {4}} {
		wantRoots(t, now, want...)
		now = impl.Round(now)
	}
}

// Whoever is claimed there: it need be nobody of the net, and may be told at what is shut.
func TestRootsAskForRootPorts(t *testing.T) {
	stranger := withClaim(portFor(impl.RoAlt, 0), vecOf(1, 2, 6, 0), 2, 1)
	n := impl.Net{Bridges: []impl.Bridge{bridgeOf(9, stranger), bridgeOf(8, portFor(impl.RoRoot, 0))}, Links: linksOf(0, 0, 1, 0)}
	wantNetOk(t, n, true)
	wantRoots(t, n, 1)
	// what can't be followed leads nowhere: its own, a greater one, what is too far or came by too many
	for _, p := range []impl.Port{
		withClaim(portFor(impl.RoRoot, 0), vecOf(1, 2, 9, 0), 2, 1), withClaim(portFor(impl.RoRoot, 0), vecOf(9, 1, 8, 0), 2, 1),
		withClaim(portFor(impl.RoRoot, 0), vecOf(1, impl.MaxCost, 6, 0), 2, 1), withClaim(portFor(impl.RoRoot, 0), vecOf(1, 2, 6, 0), impl.MaxHops, 1),
	} {
		n.Bridges[0].Ports[0] = p
		wantRoots(t, n, 0, 1)
	}
}

// The chapter asks of each alone that it has no RootPort, not that they are a net; what is no bridge has none.
func TestRootsOfNoNet(t *testing.T) {
	for at, n := range bentNets() {
		wantRoots(t, n, plainRoots(n)...)
		if impl.NetOk(n) {
			t.Errorf("%d is a net: %+v", at, n)
		}
	}
	leads, alone := bridgeOf(5, followed(2, 1, 4, 0)), bridgeOf(5, portFor(impl.RoDes, 0))
	wantRoots(t, impl.Net{Bridges: []impl.Bridge{leads, alone, leads, leads, alone}}, 1, 4)
	wantRoots(t, impl.Net{Bridges: []impl.Bridge{leads, {}, {Id: 3}, leads, {Id: 77, Ports: leads.Ports}}}, 1, 2, 4)
	wantRoots(t, impl.Net{Bridges: []impl.Bridge{leads}, Links: linksOf(9, 9, 9, 9)})
	many := impl.Roots(impl.Net{Bridges: make([]impl.Bridge, 1000)})
	for at, root := range many {
		if root != at {
			t.Fatalf("%d stands at %d", root, at)
		}
	}
	if len(many) != 1000 {
		t.Errorf("%d of a thousand", len(many))
	}
}

func TestTreeOfNoNet(t *testing.T) {
	for _, n := range bentNets() {
		for link := -1; link < 9; link++ {
			if impl.Passes(n, link) {
				t.Errorf("Passes(%+v, %d): true", n, link)
			}
		}
		for from := -1; from < 8; from++ {
			wantReach(t, n, from, false)
			wantReach(t, n, from, true)
		}
		for _, far := range noNumbers {
			wantReach(t, n, far, false)
			wantReach(t, n, far, true)
		}
		wantPasses(t, n)
		wantRingless(t, n, false)
		wantSpans(t, n, false)
		wantIsTree(t, n, false)
	}
	// what is settled, with one thing turned in a bridge that no link is at
	n, _ := impl.NetNew([]int{3, 1, 2}, row(2))
	s := impl.Settle(n, 30)
	wantTree(t, s)
	for _, bent := range []impl.Net{bentNet(s, func(n *impl.Net) { n.Bridges[2].Id = 3 }), bentNet(s, func(n *impl.Net) { n.Bridges[2].Ports = nil }), bentNet(s, func(n *impl.Net) { n.Bridges[2].Ports[0] = portFor(impl.RoDes, 0) })} {
		wantPasses(t, bent, false)
		wantReach(t, bent, 0, false)
		wantReach(t, bent, 0, true)
		wantRingless(t, bent, false)
		wantSpans(t, bent, false)
		wantIsTree(t, bent, false)
	}
}

func TestIsTreeOfOneAlone(t *testing.T) {
	n, _ := impl.NetNew([]int{3}, nil)
	wantTree(t, n)
	n, _ = impl.NetNew([]int{3, 1, 2, 9, 8}, nil)
	wantTree(t, n)
}

// Ringless, Spans, and who follows nobody: none of them goes without the others.
func TestIsTreeAsksAllThree(t *testing.T) {
	root, least := withClaim(portFor(impl.RoRoot, 0), vecOf(2, 0, 2, 0), 0, 3), portFor(impl.RoDes, 0)
	tree := impl.Net{Bridges: []impl.Bridge{bridgeOf(7, root, impl.Port{}), bridgeOf(2, least, impl.Port{})}, Links: linksOf(0, 0, 1, 0)}
	wantIsTree(t, tree, true)
	// a ring
	n := withLink(tree, 0, 1, 1, 1)
	wantRingless(t, n, false)
	wantSpans(t, n, true)
	wantRoots(t, n, 1)
	wantIsTree(t, n, false)
	n.Bridges[0].Ports[1] = portFor(impl.RoAlt, 0)
	wantIsTree(t, n, true)
	// left out
	n = bentNet(tree, func(n *impl.Net) { n.Bridges[1].Ports[0] = portFor(impl.RoDes, 1) })
	wantRingless(t, n, true)
	wantSpans(t, n, false)
	wantRoots(t, n, 1)
	wantIsTree(t, n, false)
	// one that follows nobody, and is not the least: beside the least one, and alone
	n = bentNet(tree, func(n *impl.Net) { n.Bridges[0].Ports[0] = portFor(impl.RoRoot, 0) })
	wantRingless(t, n, true)
	wantSpans(t, n, true)
	wantRoots(t, n, 0, 1)
	wantIsTree(t, n, false)
	n.Bridges[1].Ports[0] = withClaim(portFor(impl.RoRoot, 0), vecOf(1, 0, 1, 0), 0, 3)
	wantRoots(t, n, 0)
	wantIsTree(t, n, false)
	// none that follows nobody: there is none that would not be the least
	n.Bridges[0].Ports[0] = n.Bridges[1].Ports[0]
	wantRoots(t, n)
	wantIsTree(t, n, true)
}

// The least is asked for over all links, of any number of bridges between, and of those of the same part alone.
func TestIsTreeAsksForTheLeastOfItsPart(t *testing.T) {
	follows := withClaim(portFor(impl.RoRoot, 0), vecOf(1, 1, 6, 0), 1, 2)
	for far := 1; far < 5; far++ {
		ids := []int{9, 8, 7, 5, 4}[:far+1]
		n := madeBy(ids, row(far+1), "oooo")
		for at := 1; at <= far; at++ {
			n.Bridges[at].Ports[1] = follows
		}
		wantRoots(t, n, 0)
		wantIsTree(t, n, false)
		n.Bridges[0].Id = 3
		wantRoots(t, n, 0)
		wantIsTree(t, n, true)
		// a lesser one in another part says nothing of it
		if far < 4 {
			n.Bridges = append(n.Bridges, bridgeOf(2, impl.Port{}))
			wantRoots(t, n, 0, far+1)
			wantIsTree(t, n, true)
		}
	}
}

func TestTreeAsTheChapterSays(t *testing.T) {
	for _, s := range shapes {
		eachMade(s.count, s.links, "", func(n impl.Net, letters string) {
			wantTreeAsPlain(t, n)
			if t.Failed() {
				t.Fatalf("%d bridges, %v: %s", s.count, s.links, letters)
			}
		})
	}
	for _, n := range anyNets(3000) {
		wantTreeAsPlain(t, n)
		wantTreeAsPlain(t, impl.Round(n))
	}
}

// With Ringless there are just as many open links as it takes; without it there are more.
func TestRinglessCountsLinks(t *testing.T) {
	rings := 0
	for _, s := range shapes {
		eachMade(s.count, s.links, "", func(n impl.Net, letters string) {
			open := 0
			for _, letter := range letters {
				if letter == 'o' {
					open++
				}
			}
			fewest := s.count - partsBy(n, false)
			if open < fewest || impl.Ringless(n) != (open == fewest) || impl.Spans(n) != (partsBy(n, false) == partsBy(n, true)) {
				t.Fatalf("%s of %v: %d open, %d join", letters, s.links, open, fewest)
			}
			if open > fewest {
				rings++
			}
		})
	}
	if rings < 100 {
		t.Errorf("only %d rings", rings)
	}
}

func TestSettledIsATree(t *testing.T) {
	for _, n := range newNets() {
		// what waits is shut, so new ones that are linked are none yet
		wantIsTree(t, n, len(n.Links) == 0)
		wantIsTree(t, impl.Settle(n, 3), len(n.Links) == 0)
		wantTree(t, impl.Settle(n, 30))
		if t.Failed() {
			t.Fatalf("of %+v", n)
		}
	}
}

// Whatever was claimed there ahead of it, and whichever ports were open.
func TestAnyNetSettlesToATree(t *testing.T) {
	none := 0
	for seed, n := range anyNets(1500) {
		if !impl.IsTree(n) {
			none++
		}
		wantTree(t, impl.Settle(n, 30))
		if t.Failed() {
			t.Fatalf("of %d: %+v", seed, n)
		}
	}
	if none < 500 {
		t.Errorf("only %d were no trees", none)
	}
}

func TestIsTreeOfARing(t *testing.T) {
	for count := 3; count <= 5; count++ {
		for turn := range 9 {
			n := madeBy(idsOf(count, turn), ring(count), "ooooo")
			wantIsTree(t, n, false)
			wantSpans(t, n, true)
			wantRingless(t, n, false)
			s := impl.Settle(n, 30)
			wantTree(t, s)
			// open again what was shut for the ring
			for at, b := range s.Bridges {
				for port, p := range b.Ports {
					if p.Up && !p.Open {
						wantIsTree(t, bentNet(s, func(n *impl.Net) {
							n.Bridges[at].Ports[port] = withClaim(portFor(impl.RoDes, 0), p.Vec, p.Hops, p.Left)
						}), false)
					}
				}
			}
		}
	}
}

// withoutLink takes a link away: both of its ends are told so.
func withoutLink(n impl.Net, link int) impl.Net {
	next := copyNet(n)
	l := n.Links[link]
	next.Bridges[l.A] = afterAll(next.Bridges[l.A], linkIn(l.P, false))
	next.Bridges[l.B] = afterAll(next.Bridges[l.B], linkIn(l.Q, false))
	next.Links = slices.Delete(next.Links, link, link+1)
	return next
}

func TestTreeWithoutALink(t *testing.T) {
	torn := 0
	for _, n := range newNets() {
		s := impl.Settle(n, 30)
		for link := range n.Links {
			less := withoutLink(s, link)
			wantNetOk(t, less, true)
			if !impl.IsTree(less) {
				torn++
			}
			again := impl.Settle(less, 30)
			wantTree(t, again)
			// one that did not pass is not missed
			if !impl.Passes(s, link) {
				wantIsTree(t, less, true)
				wantRingless(t, less, true)
			}
			// one more is taken away, and all is put back
			for other := range again.Links {
				wantTree(t, impl.Settle(withoutLink(again, other), 30))
			}
			l := n.Links[link]
			back := copyNet(again)
			back.Links = append(back.Links, l)
			back.Bridges[l.A] = afterAll(back.Bridges[l.A], linkIn(l.P, true))
			back.Bridges[l.B] = afterAll(back.Bridges[l.B], linkIn(l.Q, true))
			wantTree(t, impl.Settle(back, 30))
			if t.Failed() {
				t.Fatalf("without %d: %+v", link, n)
			}
		}
	}
	if torn < 100 {
		t.Errorf("only %d were no trees", torn)
	}
}

func TestTreeSharesNoMemory(t *testing.T) {
	for _, n := range slices.Concat(newNets(), anyNets(200), bentNets()) {
		kept := copyNet(n)
		for _, ask := range []func(impl.Net) []int{
			func(n impl.Net) []int { return impl.Reach(n, 0, false) }, func(n impl.Net) []int { return impl.Reach(n, 0, true) }, func(n impl.Net) []int { return impl.Reach(n, len(n.Bridges)-1, true) },
			func(n impl.Net) []int { return impl.Reach(n, -1, true) }, impl.Roots,
		} {
			one, two := ask(n), ask(n)
			want := slices.Clone(two)
			scrawl(one, 77)
			if !sameNet(n, kept) || !slices.Equal(two, want) || !slices.Equal(ask(n), want) {
				t.Fatalf("it shares memory: %v %v of %+v", two, want, kept)
			}
			handed := copyNet(n)
			three := ask(handed)
			scrawlNet(handed)
			if !slices.Equal(three, want) {
				t.Fatalf("what was answered is now %v", three)
			}
		}
	}
}

// askTree asks all of the chapter.
func askTree(n impl.Net) {
	for at := -1; at < 7; at++ {
		impl.Passes(n, at)
		impl.Reach(n, at, false)
		impl.Reach(n, at, true)
	}
	impl.Ringless(n)
	impl.Spans(n)
	impl.Roots(n)
	impl.IsTree(n)
}

func TestTreeWritesIntoNoArgument(t *testing.T) {
	// the room behind what is handed in is to stay as it is, too
	wide := impl.Settle(crossed(6), 30)
	for at := range wide.Bridges {
		wide.Bridges[at].Ports = append(wide.Bridges[at].Ports, impl.Port{Wait: 9}, portFor(impl.RoDes, 3))
	}
	wide.Bridges = append(wide.Bridges, bridgeOf(7, impl.Port{}), impl.Bridge{Id: 77})
	wide.Links = append(wide.Links, linksOf(2, 3, 4, 2, 9, 9, 9, 9)...)
	kept := copyNet(wide)
	for count := range len(wide.Bridges) + 1 {
		for few := range len(wide.Links) + 1 {
			for ports := range 6 {
				list := slices.Clone(wide.Bridges)
				for at, b := range list {
					list[at].Ports = b.Ports[:min(ports, len(b.Ports))]
				}
				askTree(impl.Net{Bridges: list[:count], Links: wide.Links[:few]})
				for at, b := range list {
					if b.Id != kept.Bridges[at].Id || len(b.Ports) != min(ports, len(wide.Bridges[at].Ports)) {
						t.Fatalf("written into %d bridges: %+v", count, list)
					}
				}
			}
		}
	}
	if !sameNet(wide, kept) {
		t.Errorf("written into: %+v, was %+v", wide, kept)
	}
	// links that pass stand ahead of one that is shut, and behind it
	for _, letters := range []string{"oooos", "soooo", "ooooo", "ososo"} {
		n := madeOf(5, ring(5), letters)
		n.Links = append(n.Links, linksOf(8, 8, 8, 8)...)
		kept := copyNet(n)
		askTree(impl.Net{Bridges: n.Bridges, Links: n.Links[:5]})
		if !sameNet(n, kept) {
			t.Errorf("written into: %+v, was %+v", n, kept)
		}
	}
	for _, n := range slices.Concat(anyNets(300), bentNets()) {
		kept := copyNet(n)
		askTree(n)
		if !sameNet(n, kept) {
			t.Fatalf("written into: %+v, was %+v", n, kept)
		}
	}
}

func FuzzTree(f *testing.F) {
	f.Add(uint64(1), 0, 0, 0, 1, 0, 0)
	f.Add(uint64(7), 5, 1, 3, 2, 3, 3)
	f.Add(uint64(12), -1, -1, 4, math.MaxInt, math.MinInt, 10)
	f.Add(uint64(23), math.MinInt, 0, 0, 0, 1, 9)
	f.Fuzz(func(t *testing.T, seed uint64, number int, a int, p int, b int, q int, rounds int) {
		c := &chooser{seed}
		right := anyNet(c)
		link := impl.Link{A: a, P: p, B: b, Q: q}
		near := impl.Link{A: a & 7, P: p & 3, B: b & 7, Q: q & 3}
		for _, n := range []impl.Net{
			right, impl.Settle(right, rounds&15), bentNet(right, func(n *impl.Net) { n.Links = append(n.Links, link) }), bentNet(right, func(n *impl.Net) { n.Links = append(n.Links, near) }),
			bentNet(right, func(n *impl.Net) { n.Bridges[c.below(len(n.Bridges))].Id = number }), bentNet(right, func(n *impl.Net) { n.Bridges = append(n.Bridges, bridgeOf(number, impl.Port{})) }),
		} {
			kept := copyNet(n)
			wantTreeAsPlain(t, n)
			if got := impl.Passes(n, number); got != plainPasses(n, number) {
				t.Errorf("Passes(%+v, %d): %v", n, number, got)
			}
			wantReach(t, n, number, false, plainReach(n, number, false)...)
			wantReach(t, n, number, true, plainReach(n, number, true)...)
			if !sameNet(n, kept) {
				t.Errorf("was written into: %+v, was %+v", n, kept)
			}
		}
		settled := impl.Settle(right, 100)
		wantTree(t, settled)
		if len(settled.Links) > 0 {
			wantTree(t, impl.Settle(withoutLink(settled, c.below(len(settled.Links))), 100))
		}
	})
}
