package tests

import (
	"math"
	"testing"

	"loop.example/g00470/impl"
)

// roles are those of a port that is there.
var roles = []int{impl.RoRoot, impl.RoDes, impl.RoAlt}

// noRoles are such as Turn takes none of.
var noRoles = []int{math.MinInt, -3, -1, impl.RoOff, 4, 5, 256 + impl.RoDes, 1<<32 + impl.RoRoot, math.MaxInt}

var wildNumbers = []int{math.MinInt, math.MinInt + 1, -256, -1, 0, 1, 2, 3, 4, 5, 8, 9, 256, 1 << 32, 1<<32 + 1, math.MaxInt - 1, math.MaxInt}

// noHops are beyond what a claim can come by.
var noHops = []int{math.MinInt, -8, -1, 9, 10, 256, 1 << 32, math.MaxInt}

// portFor is there, for that role, open where it can be, and has nothing.
func portFor(role int, wait int) impl.Port {
	return impl.Port{Up: true, Role: role, Wait: wait, Open: role != impl.RoAlt && wait == 0}
}

// withClaim is p, where that is claimed for so many ticks yet.
func withClaim(p impl.Port, v impl.Vec, hops int, left int) impl.Port {
	p.Has, p.Vec, p.Hops, p.Left = true, v, hops, left
	return p
}

// fewVecs are near to each other: better and worse ones, of the same and of other bridges and ports.
func fewVecs() []impl.Vec {
	return []impl.Vec{
		vecOf(1, 0, 1, 0), vecOf(1, 0, 1, 3), vecOf(1, 1, 2, 0), vecOf(1, 20, 9, 3),
		vecOf(2, 0, 2, 1), vecOf(2, 1, 4, 1), vecOf(2, 1, 5, 2), vecOf(2, 2, 4, 1), vecOf(2, 2, 4, 2), vecOf(2, 2, 5, 1), vecOf(2, 3, 4, 1), vecOf(2, 3, 4, 0),
		vecOf(3, 0, 3, 0), vecOf(3, 1, 4, 1), vecOf(4, 0, 4, 1), vecOf(4, 0, 4, 2), vecOf(9, 0, 9, 3),
	}
}

// bareUpPorts are all that are there and have nothing.
func bareUpPorts() []impl.Port {
	var list []impl.Port
	for _, role := range roles {
		for wait := range 5 {
			list = append(list, portFor(role, wait))
		}
	}
	return list
}

// bareDownPorts are all that are not there.
func bareDownPorts() []impl.Port {
	var list []impl.Port
	for wait := range 5 {
		list = append(list, impl.Port{Wait: wait})
	}
	return list
}

// claimedPorts have each of few claims, come by few and by many.
func claimedPorts() []impl.Port {
	var list []impl.Port
	for _, p := range bareUpPorts() {
		for _, v := range fewVecs() {
			for _, hops := range []int{0, 1, 7, 8} {
				for left := 1; left <= 3; left++ {
					list = append(list, withClaim(p, v, hops, left))
				}
			}
		}
	}
	return list
}

func goodPorts() []impl.Port {
	return append(append(bareUpPorts(), bareDownPorts()...), claimedPorts()...)
}

// bentBy is p with one thing turned.
func bentBy(p impl.Port, turn func(*impl.Port)) impl.Port {
	turn(&p)
	return p
}

// bentPorts are none, each for one reason or several.
func bentPorts() []impl.Port {
	v := vecOf(2, 1, 4, 1)
	des, held := portFor(impl.RoDes, 0), withClaim(portFor(impl.RoDes, 0), v, 3, 2)
	list := []impl.Port{
		// it has nothing, but something of a claim
		bentBy(des, func(p *impl.Port) { p.Vec = v }), bentBy(des, func(p *impl.Port) { p.Hops = 1 }), bentBy(des, func(p *impl.Port) { p.Left = 1 }),
		bentBy(des, func(p *impl.Port) { p.Vec.Port = 1 }), bentBy(des, func(p *impl.Port) { p.Vec.Root = -1 }), bentBy(des, func(p *impl.Port) { p.Hops = -1 }), bentBy(des, func(p *impl.Port) { p.Left = -1 }),
		bentBy(held, func(p *impl.Port) { p.Has = false }), {Vec: v}, {Hops: 1}, {Left: 1}, {Vec: v, Hops: 3, Left: 2},
		// something is claimed where it is not there
		{Has: true, Vec: v, Hops: 3, Left: 2}, {Has: true, Vec: v, Left: 1}, {Has: true},
		// it is there for nothing, or not there for something
		{Up: true}, {Up: true, Wait: 4}, bentBy(held, func(p *impl.Port) { p.Role, p.Open = impl.RoOff, false }), bentBy(held, func(p *impl.Port) { p.Role = impl.RoOff }),
		{Role: impl.RoRoot}, {Role: impl.RoDes}, {Role: impl.RoAlt}, {Role: impl.RoRoot, Open: true}, {Role: impl.RoDes, Open: true}, {Role: impl.RoRoot, Wait: 2}, {Role: impl.RoDes, Wait: 4}, {Role: impl.RoAlt, Wait: 1},
		// open where it is shut, and shut where it is open
		{Open: true}, {Open: true, Wait: 1}, {Up: true, Role: impl.RoAlt, Open: true}, {Up: true, Role: impl.RoRoot}, {Up: true, Role: impl.RoDes},
		{Up: true, Role: impl.RoRoot, Wait: 1, Open: true}, {Up: true, Role: impl.RoDes, Wait: 4, Open: true}, {Up: true, Role: impl.RoAlt, Wait: 1, Open: true}, {Up: true, Open: true},
		bentBy(held, func(p *impl.Port) { p.Open = false }), bentBy(held, func(p *impl.Port) { p.Wait = 1 }), bentBy(held, func(p *impl.Port) { p.Role = impl.RoAlt }),
		// nothing is claimed, though it has it
		bentBy(des, func(p *impl.Port) { p.Has = true }), bentBy(des, func(p *impl.Port) { p.Has, p.Left = true, 1 }), bentBy(des, func(p *impl.Port) { p.Has, p.Vec = true, v }),
	}
	for _, role := range append(noRoles, wildNumbers...) {
		if role < impl.RoOff || role > impl.RoAlt {
			list = append(list, impl.Port{Role: role}, impl.Port{Up: true, Role: role}, impl.Port{Up: true, Role: role, Open: true}, impl.Port{Role: role, Open: true},
				bentBy(held, func(p *impl.Port) { p.Role, p.Open = role, false }), bentBy(held, func(p *impl.Port) { p.Role = role }))
		}
	}
	for _, wait := range wildNumbers {
		if wait < 0 || wait > 4 {
			list = append(list, impl.Port{Wait: wait}, portFor(impl.RoRoot, wait), portFor(impl.RoDes, wait), portFor(impl.RoAlt, wait), bentBy(held, func(p *impl.Port) { p.Wait, p.Open = wait, false }))
		}
	}
	for _, hops := range noHops {
		list = append(list, bentBy(held, func(p *impl.Port) { p.Hops = hops }))
	}
	for _, left := range wildNumbers {
		if left < 1 || left > 3 {
			list = append(list, bentBy(held, func(p *impl.Port) { p.Left = left }))
		}
	}
	for _, no := range bentVecs() {
		list = append(list, bentBy(held, func(p *impl.Port) { p.Vec = no }))
	}
	return list
}

// plainPortOk, and plainClaim, plainFade and plainTurn, say again what the chapter says.
func plainPortOk(p impl.Port) bool {
	if p.Has {
		if !p.Up || !plainVecOk(p.Vec) || p.Hops < 0 || p.Hops > 8 || p.Left < 1 || p.Left > 3 {
			return false
		}
	} else if p.Vec.Root != 0 || p.Vec.Cost != 0 || p.Vec.Bridge != 0 || p.Vec.Port != 0 || p.Hops != 0 || p.Left != 0 {
		return false
	}
	if p.Role < 0 || p.Role > 3 || p.Up && p.Role == 0 || !p.Up && p.Role != 0 {
		return false
	}
	if p.Wait < 0 || p.Wait > 4 {
		return false
	}
	return p.Open == ((p.Role == 1 || p.Role == 2) && p.Wait == 0)
}

func plainClaim(p impl.Port, v impl.Vec, hops int) impl.Port {
	if !plainPortOk(p) || !p.Up || !plainVecOk(v) || hops < 0 || hops > 8 {
		return p
	}
	alike := p.Vec.Bridge == v.Bridge && p.Vec.Port == v.Port
	if p.Has && plainBetter(p.Vec, v) && !alike {
		return p
	}
	return impl.Port{Up: true, Has: true, Vec: v, Hops: hops, Left: 3, Role: p.Role, Wait: p.Wait, Open: p.Open}
}

func plainFade(p impl.Port) impl.Port {
	if !plainPortOk(p) || !p.Has {
		return p
	}
	if p.Left == 1 {
		return impl.Port{Up: p.Up, Role: p.Role, Wait: p.Wait, Open: p.Open}
	}
	p.Left--
	return p
}

func plainTurn(p impl.Port, role int) impl.Port {
	if !plainPortOk(p) || !p.Up || role != 1 && role != 2 && role != 3 {
		return p
	}
	if role == 3 {
		p.Wait = 0
	} else if p.Role == 3 {
		p.Wait = 4
	}
	p.Role = role
	p.Open = role != 3 && p.Wait == 0
	return p
}

func wantClaim(t *testing.T, p impl.Port, v impl.Vec, hops int, want impl.Port) {
	t.Helper()
	if got := impl.Claim(p, v, hops); got != want {
		t.Errorf("Claim(%+v, %v, %d): %+v, want %+v", p, v, hops, got, want)
	}
}

func wantFade(t *testing.T, p impl.Port, want impl.Port) {
	t.Helper()
	if got := impl.Fade(p); got != want {
		t.Errorf("Fade(%+v): %+v, want %+v", p, got, want)
	}
}

func wantTurn(t *testing.T, p impl.Port, role int, want impl.Port) {
	t.Helper()
	if got := impl.Turn(p, role); got != want {
		t.Errorf("Turn(%+v, %d): %+v, want %+v", p, role, got, want)
	}
}

func TestPortLimits(t *testing.T) {
	if impl.RoOff != 0 || impl.RoRoot != 1 || impl.RoDes != 2 || impl.RoAlt != 3 {
		t.Error("roles", impl.RoOff, impl.RoRoot, impl.RoDes, impl.RoAlt)
	}
	if impl.MaxHops != 8 || impl.Life != 3 || impl.Delay != 4 {
		t.Error("limits", impl.MaxHops, impl.Life, impl.Delay)
	}
}

func TestPortOk(t *testing.T) {
	for _, p := range goodPorts() {
		if !impl.PortOk(p) {
			t.Errorf("PortOk(%+v): false", p)
		}
	}
	for _, v := range goodVecs() {
		if p := withClaim(portFor(impl.RoAlt, 0), v, 0, 3); !impl.PortOk(p) {
			t.Errorf("PortOk(%+v): false", p)
		}
	}
	for _, p := range bentPorts() {
		if impl.PortOk(p) {
			t.Errorf("PortOk(%+v): true", p)
		}
	}
}

func TestPortOkAtItsEdges(t *testing.T) {
	v := vecOf(2, 1, 4, 1)
	root := portFor(impl.RoRoot, 0)
	for _, c := range []struct {
		p    impl.Port
		want bool
	}{
		{impl.Port{}, true}, {impl.Port{Wait: 4}, true}, {impl.Port{Wait: 5}, false}, {impl.Port{Wait: -1}, false},
		{withClaim(root, v, -1, 1), false}, {withClaim(root, v, 0, 1), true}, {withClaim(root, v, 8, 1), true}, {withClaim(root, v, 9, 1), false},
		{withClaim(root, v, 1, 0), false}, {withClaim(root, v, 1, 1), true}, {withClaim(root, v, 1, 3), true}, {withClaim(root, v, 1, 4), false}, {withClaim(root, v, 1, -1), false},
		{portFor(impl.RoRoot, -1), false}, {portFor(impl.RoRoot, 0), true}, {portFor(impl.RoRoot, 4), true}, {portFor(impl.RoRoot, 5), false},
		{portFor(impl.RoAlt, -1), false}, {portFor(impl.RoAlt, 0), true}, {portFor(impl.RoAlt, 4), true}, {portFor(impl.RoAlt, 5), false},
		{impl.Port{Up: true, Role: -1}, false}, {impl.Port{Up: true, Role: 0}, false}, {impl.Port{Up: true, Role: 3}, true}, {impl.Port{Up: true, Role: 4}, false},
		{impl.Port{Role: -1}, false}, {impl.Port{Role: 1, Open: true}, false}, {impl.Port{Role: 3}, false}, {impl.Port{Role: 4}, false},
		{impl.Port{Up: true, Role: 1, Open: true}, true}, {impl.Port{Up: true, Role: 1}, false}, {impl.Port{Up: true, Role: 1, Wait: 1}, true}, {impl.Port{Up: true, Role: 1, Wait: 1, Open: true}, false},
		{impl.Port{Up: true, Role: 2, Open: true}, true}, {impl.Port{Up: true, Role: 2}, false}, {impl.Port{Up: true, Role: 2, Wait: 1}, true}, {impl.Port{Up: true, Role: 2, Wait: 1, Open: true}, false},
		{impl.Port{Up: true, Role: 3, Open: true}, false}, {impl.Port{Open: true}, false},
	} {
		if got := impl.PortOk(c.p); got != c.want {
			t.Errorf("PortOk(%+v): %v", c.p, got)
		}
	}
}

// eachPort tells all ports of these claims, and of small numbers in and beside their limits.
func eachPort(vecs []impl.Vec, look func(impl.Port)) {
	flags := []bool{false, true}
	for _, v := range vecs {
		for _, hops := range []int{-1, 0, 1, 8, 9} {
			for left := -1; left <= 4; left++ {
				for role := -1; role <= 4; role++ {
					for wait := -1; wait <= 5; wait++ {
						for _, up := range flags {
							for _, has := range flags {
								look(impl.Port{Up: up, Has: has, Vec: v, Hops: hops, Left: left, Role: role, Wait: wait, Open: false})
								look(impl.Port{Up: up, Has: has, Vec: v, Hops: hops, Left: left, Role: role, Wait: wait, Open: true})
							}
						}
					}
				}
			}
		}
	}
}

func TestPortAsTheChapterSays(t *testing.T) {
	claims := []impl.Vec{{}, vecOf(1, 0, 1, 0), vecOf(2, 1, 4, 1), vecOf(2, 1, 5, 1), vecOf(2, 3, 4, 1), vecOf(3, 0, 4, 1)}
	good, all := 0, 0
	eachPort([]impl.Vec{{}, vecOf(2, 2, 4, 1), vecOf(4, 0, 4, 1), vecOf(2, 0, 4, 1)}, func(p impl.Port) {
		all++
		if impl.PortOk(p) {
			good++
		}
		if impl.PortOk(p) != plainPortOk(p) {
			t.Fatalf("PortOk(%+v): %v", p, impl.PortOk(p))
		}
		wantFade(t, p, plainFade(p))
		for role := -1; role <= 4; role++ {
			wantTurn(t, p, role, plainTurn(p, role))
		}
		for _, v := range claims {
			wantClaim(t, p, v, 8, plainClaim(p, v, 8))
		}
		// one is enough to tell
		if t.Failed() {
			t.FailNow()
		}
	})
	// 15 that are there and 5 that are not have nothing; each of the 15 has two claims, by 3 counts of hops, for 3 counts of ticks
	if want := 15 + 5 + 15*2*3*3; good != want {
		t.Errorf("%d of %d are ports, want %d", good, all, want)
	}
}

func TestPortOfWildNumbers(t *testing.T) {
	v := vecOf(2, 1, 4, 1)
	for _, hops := range wildNumbers {
		for _, left := range wildNumbers {
			for _, role := range wildNumbers {
				for _, wait := range wildNumbers {
					for _, open := range []bool{false, true} {
						p := impl.Port{Up: true, Has: true, Vec: v, Hops: hops, Left: left, Role: role, Wait: wait, Open: open}
						if impl.PortOk(p) != plainPortOk(p) {
							t.Fatalf("PortOk(%+v): %v", p, impl.PortOk(p))
						}
						wantClaim(t, p, v, hops, plainClaim(p, v, hops))
						wantFade(t, p, plainFade(p))
						wantTurn(t, p, role, plainTurn(p, role))
					}
				}
			}
		}
	}
}

func TestClaimWhereNothingIs(t *testing.T) {
	for _, p := range bareUpPorts() {
		for _, v := range goodVecs() {
			wantClaim(t, p, v, 3, withClaim(p, v, 3, 3))
		}
		for hops := range 9 {
			v := vecOf(9, 0, 9, 3)
			wantClaim(t, p, v, hops, withClaim(p, v, hops, 3))
		}
	}
}

func TestClaimOverAnother(t *testing.T) {
	p := portFor(impl.RoDes, 2)
	has := vecOf(2, 2, 4, 1)
	held := withClaim(p, has, 3, 1)
	for _, v := range []impl.Vec{
		// better, by each part
		vecOf(1, 0, 1, 0), vecOf(1, 20, 9, 3), vecOf(2, 0, 2, 3), vecOf(2, 1, 9, 3), vecOf(2, 2, 3, 3), vecOf(2, 2, 4, 0), vecOf(1, 20, 4, 1), vecOf(2, 1, 4, 1),
		// alike
		has,
		// worse, from who told it before
		vecOf(2, 3, 4, 1), vecOf(2, 20, 4, 1), vecOf(3, 1, 4, 1), vecOf(3, 20, 4, 1), vecOf(4, 0, 4, 1),
	} {
		wantClaim(t, held, v, 5, withClaim(p, v, 5, 3))
	}
	for _, v := range []impl.Vec{
		// worse, from another port of that bridge
		vecOf(2, 2, 4, 2), vecOf(2, 2, 4, 3), vecOf(2, 3, 4, 0), vecOf(3, 1, 4, 2), vecOf(4, 0, 4, 0),
		// worse, from such a port of another bridge
		vecOf(2, 2, 5, 1), vecOf(2, 3, 3, 1), vecOf(3, 0, 3, 1), vecOf(5, 0, 5, 1), vecOf(9, 0, 9, 1),
		// worse, from elsewhere
		vecOf(2, 2, 5, 0), vecOf(2, 3, 3, 0), vecOf(3, 0, 3, 0), vecOf(9, 0, 9, 3), vecOf(8, 20, 9, 3),
	} {
		wantClaim(t, held, v, 0, held)
	}
}

// What is told again is known anew, and by how many it came this time.
func TestClaimToldAgain(t *testing.T) {
	p := portFor(impl.RoRoot, 0)
	v := vecOf(2, 2, 4, 1)
	for left := 1; left <= 3; left++ {
		for hops := range 9 {
			wantClaim(t, withClaim(p, v, 4, left), v, hops, withClaim(p, v, hops, 3))
		}
	}
}

func TestClaimOfWhatIsNone(t *testing.T) {
	v := vecOf(1, 0, 1, 0)
	for _, p := range []impl.Port{portFor(impl.RoRoot, 0), portFor(impl.RoAlt, 0), withClaim(portFor(impl.RoDes, 1), vecOf(2, 1, 4, 1), 3, 2), withClaim(portFor(impl.RoAlt, 0), v, 8, 1)} {
		for _, no := range bentVecs() {
			wantClaim(t, p, no, 0, p)
		}
		for _, hops := range noHops {
			wantClaim(t, p, v, hops, p)
		}
		wantClaim(t, p, v, 0, withClaim(p, v, 0, 3))
		wantClaim(t, p, v, 8, withClaim(p, v, 8, 3))
	}
}

func TestClaimAtNoPort(t *testing.T) {
	for _, p := range append(bareDownPorts(), bentPorts()...) {
		for _, v := range fewVecs() {
			for hops := -1; hops <= 9; hops++ {
				wantClaim(t, p, v, hops, p)
			}
		}
		// what it has itself, too, whatever that is
		wantClaim(t, p, p.Vec, p.Hops, p)
	}
}

func TestClaimAsTheChapterSays(t *testing.T) {
	for _, p := range goodPorts() {
		for _, v := range fewVecs() {
			for _, hops := range []int{-1, 0, 5, 8, 9} {
				wantClaim(t, p, v, hops, plainClaim(p, v, hops))
			}
		}
	}
}

func TestFade(t *testing.T) {
	for _, p := range bareUpPorts() {
		for _, v := range fewVecs() {
			for hops := range 9 {
				wantFade(t, withClaim(p, v, hops, 3), withClaim(p, v, hops, 2))
				wantFade(t, withClaim(p, v, hops, 2), withClaim(p, v, hops, 1))
				wantFade(t, withClaim(p, v, hops, 1), p)
			}
		}
	}
}

func TestFadeOfNothing(t *testing.T) {
	for _, p := range append(append(bareUpPorts(), bareDownPorts()...), bentPorts()...) {
		wantFade(t, p, p)
	}
}

// What is not told again is gone in Life ticks, not sooner, and stays away.
func TestWhatIsNotToldAgainFades(t *testing.T) {
	for _, bare := range bareUpPorts() {
		for _, v := range fewVecs() {
			p := impl.Claim(bare, v, 4)
			for tick := range 3 {
				if !p.Has || p.Vec != v || p.Hops != 4 || !impl.PortOk(p) {
					t.Fatalf("%v at tick %d: %+v", v, tick, p)
				}
				p = impl.Fade(p)
			}
			for tick := 3; tick < 10; tick++ {
				if p != bare {
					t.Fatalf("%v at tick %d: %+v, want %+v", v, tick, p, bare)
				}
				p = impl.Fade(p)
			}
		}
	}
}

// What is told again ahead of that stays; what another one tells that is worse keeps nothing alive.
func TestWhatIsToldAgainStays(t *testing.T) {
	bare := portFor(impl.RoRoot, 0)
	v, worse := vecOf(2, 1, 4, 1), vecOf(2, 2, 5, 1)
	for every := 1; every <= 2; every++ {
		p := impl.Claim(bare, v, 4)
		for tick := 1; tick <= 30; tick++ {
			p = impl.Fade(p)
			if p.Vec != v || !p.Has {
				t.Fatalf("told each %d, tick %d: %+v", every, tick, p)
			}
			if tick%every == 0 {
				p = impl.Claim(p, v, 4)
			}
		}
	}
	p := impl.Claim(bare, v, 4)
	for range 2 {
		p = impl.Claim(impl.Fade(p), worse, 0)
	}
	if p != withClaim(bare, v, 4, 1) {
		t.Fatalf("beside a worse one: %+v", p)
	}
	// once it is gone, the worse one is heard
	wantClaim(t, impl.Fade(p), worse, 0, withClaim(bare, worse, 0, 3))
}

func TestTurnFromEachToEach(t *testing.T) {
	for wait := range 5 {
		for _, from := range []int{impl.RoRoot, impl.RoDes} {
			wantTurn(t, portFor(from, wait), impl.RoRoot, portFor(impl.RoRoot, wait))
			wantTurn(t, portFor(from, wait), impl.RoDes, portFor(impl.RoDes, wait))
			wantTurn(t, portFor(from, wait), impl.RoAlt, portFor(impl.RoAlt, 0))
		}
		wantTurn(t, portFor(impl.RoAlt, wait), impl.RoRoot, portFor(impl.RoRoot, 4))
		wantTurn(t, portFor(impl.RoAlt, wait), impl.RoDes, portFor(impl.RoDes, 4))
		wantTurn(t, portFor(impl.RoAlt, wait), impl.RoAlt, portFor(impl.RoAlt, 0))
	}
}

func TestTurnKeepsWhatIsClaimed(t *testing.T) {
	for _, p := range claimedPorts() {
		for _, role := range roles {
			bare := impl.Port{Up: p.Up, Role: p.Role, Wait: p.Wait, Open: p.Open}
			want := withClaim(plainTurn(bare, role), p.Vec, p.Hops, p.Left)
			wantTurn(t, p, role, want)
			if !impl.PortOk(impl.Turn(p, role)) {
				t.Fatalf("PortOk(Turn(%+v, %d)): false", p, role)
			}
		}
	}
}

// What was shut for a ring does not open at once, by whatever way it turns.
func TestWhatWasShutForARingWaits(t *testing.T) {
	for _, p := range goodPorts() {
		if p.Role != impl.RoAlt {
			continue
		}
		for _, first := range roles {
			for _, second := range roles {
				q := impl.Turn(impl.Turn(p, first), second)
				if q.Open || second != impl.RoAlt && q.Wait != 4 || second == impl.RoAlt && q.Wait != 0 {
					t.Fatalf("%+v by %d to %d: %+v", p, first, second, q)
				}
			}
		}
	}
}

func TestTurnToNoRole(t *testing.T) {
	for _, p := range goodPorts() {
		for _, role := range noRoles {
			wantTurn(t, p, role, p)
		}
	}
}

func TestTurnOfNoPort(t *testing.T) {
	for _, p := range append(bareDownPorts(), bentPorts()...) {
		for _, role := range append(noRoles, roles...) {
			wantTurn(t, p, role, p)
		}
	}
}

// A port stays one, whatever comes.
func TestPortStaysOne(t *testing.T) {
	for _, p := range append(goodPorts(), bentPorts()...) {
		was := p
		ok := impl.PortOk(p)
		answers := []impl.Port{impl.Fade(p), impl.Turn(p, impl.RoRoot), impl.Turn(p, impl.RoAlt), impl.Turn(p, impl.RoOff), impl.Claim(p, vecOf(1, 0, 1, 0), 8), impl.Claim(p, vecOf(9, 0, 9, 3), 0), impl.Claim(p, impl.Vec{}, 0)}
		for at, q := range answers {
			if impl.PortOk(q) != ok {
				t.Fatalf("answer %d of %+v: %+v", at, p, q)
			}
		}
		if p != was {
			t.Fatalf("%+v is %+v now", was, p)
		}
	}
}

func FuzzPort(f *testing.F) {
	f.Add(true, true, 2, 1, 4, 1, 3, 2, 1, 0, true, 2, 2, 4, 1, 5, 3)
	f.Add(true, true, 1, 0, 1, 0, 8, 1, 3, 0, false, 9, 0, 9, 3, 9, 1)
	f.Add(false, false, 0, 0, 0, 0, 0, 0, 0, 4, false, 1, 0, 1, 0, 0, 2)
	f.Fuzz(func(t *testing.T, up bool, has bool, root int, cost int, bridge int, port int, hops int, left int, role int, wait int, open bool, root2 int, cost2 int, bridge2 int, port2 int, hops2 int, role2 int) {
		p := impl.Port{Up: up, Has: has, Vec: vecOf(root, cost, bridge, port), Hops: hops, Left: left, Role: role, Wait: wait, Open: open}
		if impl.PortOk(p) != plainPortOk(p) {
			t.Errorf("PortOk(%+v): %v", p, impl.PortOk(p))
		}
		// and from who told it before, which one of any numbers hardly ever is
		for _, v := range []impl.Vec{vecOf(root2, cost2, bridge2, port2), vecOf(root2, cost2, bridge, port)} {
			wantClaim(t, p, v, hops2, plainClaim(p, v, hops2))
		}
		wantFade(t, p, plainFade(p))
		wantTurn(t, p, role2, plainTurn(p, role2))
	})
}
