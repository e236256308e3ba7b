package tests

import (
	"math"
	"slices"
	"testing"

	"loop.example/g00470/impl"
)

func regOf(epoch int, owner int, pair int) impl.Reg {
	return impl.Reg{Epoch: epoch, Owner: owner, Pair: pair}
}

func goodRegs() []impl.Reg {
	var list []impl.Reg
	for _, epoch := range []int{1, 2, 3, 60, 99999, 100000} {
		for owner := range 2 {
			for _, pair := range []int{0, 1, 2, 99999, 100000} {
				list = append(list, regOf(epoch, owner, pair))
			}
		}
	}
	return list
}

// bentRegs are none, each for one reason or several.
func bentRegs() []impl.Reg {
	list := []impl.Reg{{}, regOf(0, 0, 1), regOf(-1, -1, -1), regOf(100001, 2, 100001)}
	for _, n := range edgeNumbers {
		if n < 1 || n > 100000 {
			list = append(list, regOf(n, 0, 2), regOf(n, 1, 0))
		}
		if n != 0 && n != 1 {
			list = append(list, regOf(1, n, 2), regOf(2, n, 0))
		}
		if n < 0 || n > 100000 {
			list = append(list, regOf(1, 0, n), regOf(2, 1, n))
		}
	}
	return list
}

// minding, and heir, are right in all that Minds, and Take, ask for of regOf(3, 0, 7).
func minding() impl.Minder {
	return impl.Minder{Up: true, Life: 5, Epoch: 3, Log: logOf(6, 1), Said: 4, Acked: 6, AckLife: 7}
}

func heir() impl.Minder { return impl.Minder{Up: true, Life: 7, Log: logOf(6, 1)} }

// plainRegOk, and the plain ones behind it, say again what the chapter says.
func plainRegOk(r impl.Reg) bool {
	return !(r.Epoch < 1 || r.Epoch > 100000 || r.Owner < 0 || r.Owner > 1 || r.Pair < 0 || r.Pair > 100000)
}

func plainMinds(r impl.Reg, s int, m impl.Minder) bool {
	if !plainRegOk(r) || !plainMinderOk(m) || !m.Up {
		return false
	}
	return s == r.Owner && m.Epoch > 0 && m.Epoch == r.Epoch
}

func plainTake(r impl.Reg, s int, m impl.Minder) (impl.Reg, impl.Minder, bool) {
	may := plainRegOk(r) && plainMinderOk(m) && m.Up && s != r.Owner && (s == 0 || s == 1) && m.Life > 0 && m.Life == r.Pair
	if !may || r.Epoch == 100000 {
		return r, copyMinder(m), false
	}
	next := copyMinder(m)
	next.Epoch, next.Acked, next.AckLife = r.Epoch+1, 0, 0
	return regOf(r.Epoch+1, s, 0), next, true
}

func plainPairs(r impl.Reg, s int, m impl.Minder, pair int) (impl.Reg, bool) {
	if !plainMinds(r, s, m) {
		return r, false
	}
	if pair != 0 && (pair != m.AckLife || m.Acked != len(m.Log)) {
		return r, false
	}
	return regOf(r.Epoch, r.Owner, pair), true
}

func wantRegOk(t *testing.T, r impl.Reg, want bool) {
	t.Helper()
	if got := impl.RegOk(r); got != want {
		t.Errorf("RegOk(%+v): %v", r, got)
	}
}

func wantMinds(t *testing.T, r impl.Reg, s int, m impl.Minder, want bool) {
	t.Helper()
	if got := impl.Minds(r, s, m); got != want {
		t.Errorf("Minds(%+v, %d, %+v): %v", r, s, m, got)
	}
}

func wantTake(t *testing.T, r impl.Reg, s int, m impl.Minder, want impl.Reg, wantM impl.Minder, taken bool) {
	t.Helper()
	q, n, ok := impl.Take(r, s, m)
	if ok != taken || q != want || !sameMinder(n, wantM) {
		t.Errorf("Take(%+v, %d, %+v): %+v %+v %v, want %+v %+v %v", r, s, m, q, n, ok, want, wantM, taken)
	}
}

func wantNoTake(t *testing.T, r impl.Reg, s int, m impl.Minder) {
	t.Helper()
	wantTake(t, r, s, m, r, m, false)
}

func wantPairs(t *testing.T, r impl.Reg, s int, m impl.Minder, pair int, want impl.Reg, paired bool) {
	t.Helper()
	if q, ok := impl.Pairs(r, s, m, pair); ok != paired || q != want {
		t.Errorf("Pairs(%+v, %d, %+v, %d): %+v %v, want %+v %v", r, s, m, pair, q, ok, want, paired)
	}
}

func wantNoPairs(t *testing.T, r impl.Reg, s int, m impl.Minder, pair int) {
	t.Helper()
	wantPairs(t, r, s, m, pair, r, false)
}

// wantRegAsPlain holds all that is asked of r, s and m against what the chapter says.
func wantRegAsPlain(t *testing.T, r impl.Reg, s int, m impl.Minder, pairs ...int) {
	t.Helper()
	wantRegOk(t, r, plainRegOk(r))
	wantMinds(t, r, s, m, plainMinds(r, s, m))
	next, taken, ok := plainTake(r, s, m)
	wantTake(t, r, s, m, next, taken, ok)
	for _, pair := range pairs {
		paired, ok := plainPairs(r, s, m, pair)
		wantPairs(t, r, s, m, pair, paired, ok)
	}
}

func TestRegOk(t *testing.T) {
	for _, r := range goodRegs() {
		wantRegOk(t, r, true)
	}
	for _, r := range bentRegs() {
		wantRegOk(t, r, false)
	}
}

func TestRegOkAtItsEdges(t *testing.T) {
	for _, n := range edgeNumbers {
		for owner := range 2 {
			wantRegOk(t, regOf(n, owner, 0), n >= 1 && n <= 100000)
			wantRegOk(t, regOf(n, owner, 100000), n >= 1 && n <= 100000)
			wantRegOk(t, regOf(1, owner, n), n >= 0 && n <= 100000)
			wantRegOk(t, regOf(100000, owner, n), n >= 0 && n <= 100000)
		}
		wantRegOk(t, regOf(1, n, 0), n == 0 || n == 1)
		wantRegOk(t, regOf(100000, n, 100000), n == 0 || n == 1)
	}
}

func TestMinds(t *testing.T) {
	r, m := regOf(3, 0, 7), minding()
	wantMinds(t, r, 0, m, true)
	wantMinds(t, regOf(3, 1, 7), 1, m, true)
	wantMinds(t, regOf(100000, 1, 0), 1, impl.Minder{Up: true, Epoch: 100000}, true)
	// who is not the owner
	for _, s := range edgeNumbers {
		wantMinds(t, r, s, m, s == 0)
		wantMinds(t, regOf(3, 1, 7), s, m, s == 1)
	}
	// who does not mind, or as another number
	for _, n := range edgeNumbers {
		wantMinds(t, r, 0, minderBent(m, func(m *impl.Minder) { m.Epoch = n }), n == 3)
		wantMinds(t, regOf(n, 0, 7), 0, m, n == 3)
		// of one number, both of it: none that is 0, below it, or too great
		wantMinds(t, regOf(n, 0, 7), 0, minderBent(m, func(m *impl.Minder) { m.Epoch = n }), n >= 1 && n <= 100000)
	}
	wantMinds(t, r, 0, minderBent(m, func(m *impl.Minder) { m.Epoch = 2 }), false)
	wantMinds(t, r, 0, minderBent(m, func(m *impl.Minder) { m.Epoch = 4 }), false)
	wantMinds(t, regOf(3, 0, 7), 0, minderBent(m, func(m *impl.Minder) { m.Epoch = 3 + 1<<32 }), false)
	// who does not run
	wantMinds(t, r, 0, impl.Minder{Life: 5}, false)
	wantMinds(t, r, 0, impl.Minder{Life: 5, Epoch: 3}, false)
	wantMinds(t, r, 0, minderBent(m, func(m *impl.Minder) { m.Up = false }), false)
	wantMinds(t, r, 0, impl.Minder{}, false)
	wantMinds(t, impl.Reg{}, 0, impl.Minder{}, false)
	wantMinds(t, impl.Reg{}, 0, impl.Minder{Up: true}, false)
}

func TestMindsOfWhatIsNone(t *testing.T) {
	for _, r := range bentRegs() {
		for _, s := range []int{0, 1, r.Owner} {
			for _, epoch := range []int{0, 1, 2, r.Epoch} {
				wantMinds(t, r, s, impl.Minder{Up: true, Life: 5, Epoch: epoch}, false)
			}
		}
	}
	for _, m := range bentMinders() {
		wantMinds(t, regOf(max(m.Epoch, 1), 0, 7), 0, m, false)
		wantMinds(t, regOf(min(max(m.Epoch, 1), 100000), 1, 7), 1, m, false)
	}
	for _, m := range goodMinders() {
		for s := range 2 {
			wantMinds(t, regOf(max(m.Epoch, 1), s, 0), s, m, m.Up && m.Epoch > 0)
			wantMinds(t, regOf(max(m.Epoch, 1), 1-s, 0), s, m, false)
		}
	}
}

// Neither its Lives, nor how far it is, nor whom the register waits for, is asked.
func TestMindsAsksNoMore(t *testing.T) {
	for _, n := range []int{0, 1, 7, 99999, 100000} {
		wantMinds(t, regOf(3, 0, n), 0, minding(), true)
		wantMinds(t, regOf(3, 0, 7), 0, minderBent(minding(), func(m *impl.Minder) { m.Life = n }), true)
		wantMinds(t, regOf(3, 0, 7), 0, minderBent(minding(), func(m *impl.Minder) { m.AckLife = n }), true)
	}
	for n := range 7 {
		wantMinds(t, regOf(3, 0, 7), 0, minderBent(minding(), func(m *impl.Minder) { m.Said = n }), true)
		wantMinds(t, regOf(3, 0, 7), 0, minderBent(minding(), func(m *impl.Minder) { m.Acked = n }), true)
	}
}

// Where it takes, each field of both is as it is to be.
func TestTake(t *testing.T) {
	log := logOf(6, 1)
	for s := range 2 {
		r := regOf(3, 1-s, 7)
		wantTake(t, r, s, impl.Minder{Up: true, Life: 7, Log: log}, regOf(4, s, 0), impl.Minder{Up: true, Life: 7, Epoch: 4, Log: log}, true)
		wantTake(t, r, s, impl.Minder{Up: true, Life: 7, Log: log, Said: 2, Acked: 5, AckLife: 6}, regOf(4, s, 0), impl.Minder{Up: true, Life: 7, Epoch: 4, Log: log, Said: 2}, true)
		wantTake(t, r, s, impl.Minder{Up: true, Life: 7, Log: log, Said: 6, Acked: 6, AckLife: 100000}, regOf(4, s, 0), impl.Minder{Up: true, Life: 7, Epoch: 4, Log: log, Said: 6}, true)
		wantTake(t, r, s, impl.Minder{Up: true, Life: 7}, regOf(4, s, 0), impl.Minder{Up: true, Life: 7, Epoch: 4}, true)
		// as which it minded ahead of that counts for nothing
		for _, epoch := range []int{1, 2, 3, 4, 5, 100000} {
			wantTake(t, r, s, impl.Minder{Up: true, Life: 7, Epoch: epoch, Log: log, Said: 1}, regOf(4, s, 0), impl.Minder{Up: true, Life: 7, Epoch: 4, Log: log, Said: 1}, true)
		}
	}
	for _, m := range goodMinders() {
		if m.Up && m.Life > 0 {
			q, n, ok := impl.Take(regOf(9, 1, m.Life), 0, m)
			if !ok || q != regOf(10, 0, 0) || n.Epoch != 10 || n.Acked != 0 || n.AckLife != 0 || !n.Up || n.Life != m.Life || n.Said != m.Said || !slices.Equal(n.Log, m.Log) {
				t.Errorf("Take by %+v: %+v %+v %v", m, q, n, ok)
			}
			if !impl.RegOk(q) || !impl.MinderOk(n) || !impl.Minds(q, 0, n) || impl.Minds(q, 1, n) {
				t.Errorf("Take by %+v answers what does not mind: %+v %+v", m, q, n)
			}
		}
	}
}

func TestTakeByWhom(t *testing.T) {
	for _, s := range edgeNumbers {
		for owner := range 2 {
			r := regOf(3, owner, 7)
			if s == 1-owner {
				wantTake(t, r, s, heir(), regOf(4, s, 0), minderBent(heir(), func(m *impl.Minder) { m.Epoch = 4 }), true)
			} else {
				wantNoTake(t, r, s, heir())
			}
		}
	}
	// the owner does not, also as one that minds, or did
	wantNoTake(t, regOf(3, 0, 7), 0, heir())
	for _, epoch := range []int{0, 2, 3, 4} {
		wantNoTake(t, regOf(3, 0, 7), 0, impl.Minder{Up: true, Life: 7, Epoch: epoch})
	}
	wantNoTake(t, regOf(3, 0, 5), 0, minding())
}

// Who is waited for is one life, and no other one.
func TestTakeInALife(t *testing.T) {
	for _, pair := range []int{1, 2, 7, 99999, 100000} {
		for _, life := range slices.Concat(edgeNumbers, []int{pair - 1, pair, pair + 1, pair + 1<<32}) {
			m := impl.Minder{Up: true, Life: life, Log: logOf(3, pair)}
			if life == pair {
				wantTake(t, regOf(3, 0, pair), 1, m, regOf(4, 1, 0), minderBent(m, func(m *impl.Minder) { m.Epoch = 4 }), true)
			} else {
				wantNoTake(t, regOf(3, 0, pair), 1, m)
			}
		}
	}
	// where none is waited for, no life takes, not even the one that is none
	for _, life := range edgeNumbers {
		wantNoTake(t, regOf(3, 0, 0), 1, impl.Minder{Up: true, Life: life})
		wantNoTake(t, regOf(3, 1, 0), 0, impl.Minder{Up: true, Life: life, Log: logOf(3, 3)})
	}
	// two that are alike, but are no lives
	for _, n := range edgeNumbers {
		if n < 1 || n > 100000 {
			wantNoTake(t, regOf(3, 0, n), 1, impl.Minder{Up: true, Life: n})
		}
	}
}

// Behind the last number there is none.
func TestTakeAtTheLastNumber(t *testing.T) {
	m := impl.Minder{Up: true, Life: 7, Epoch: 5, Log: logOf(6, 1), Said: 3, Acked: 2, AckLife: 6}
	for s := range 2 {
		for _, epoch := range edgeNumbers {
			r := regOf(epoch, 1-s, 7)
			if epoch >= 1 && epoch < 100000 {
				wantTake(t, r, s, m, regOf(epoch+1, s, 0), minderBent(m, func(m *impl.Minder) { m.Epoch, m.Acked, m.AckLife = epoch+1, 0, 0 }), true)
			} else {
				wantNoTake(t, r, s, m)
			}
		}
		wantNoTake(t, regOf(100000, 1-s, 100000), s, impl.Minder{Up: true, Life: 100000, Epoch: 100000, AckLife: 100000})
		wantTake(t, regOf(99999, 1-s, 100000), s, impl.Minder{Up: true, Life: 100000, Epoch: 100000, AckLife: 100000}, regOf(100000, s, 0), impl.Minder{Up: true, Life: 100000, Epoch: 100000}, true)
	}
}

func TestTakeOfWhatIsNone(t *testing.T) {
	for _, r := range bentRegs() {
		for _, s := range []int{0, 1, 2, -1, r.Owner, 1 - r.Owner} {
			for _, life := range []int{0, 1, 2, r.Pair} {
				wantNoTake(t, r, s, impl.Minder{Up: true, Life: life, Log: logOf(3, 1), Said: 2, Acked: 1, AckLife: 4})
			}
		}
	}
	for _, m := range bentMinders() {
		wantNoTake(t, regOf(3, 0, m.Life), 1, m)
		wantNoTake(t, regOf(3, 1, min(max(m.Life, 1), 100000)), 0, m)
	}
	// who does not run
	for _, life := range []int{1, 7, 100000} {
		wantNoTake(t, regOf(3, 0, life), 1, impl.Minder{Life: life})
		wantNoTake(t, regOf(3, 1, life), 0, impl.Minder{Life: life})
		wantNoTake(t, regOf(3, 0, life), 1, impl.Minder{Life: life, Log: []impl.In{}})
	}
	wantNoTake(t, regOf(3, 0, 7), 1, minderBent(heir(), func(m *impl.Minder) { m.Up = false }))
	wantNoTake(t, impl.Reg{}, 1, impl.Minder{})
	wantNoTake(t, impl.Reg{}, 0, impl.Minder{Up: true})
}

func TestPairs(t *testing.T) {
	for s := range 2 {
		for _, was := range []int{0, 1, 7, 8, 100000} {
			r := regOf(3, s, was)
			wantPairs(t, r, s, minding(), 7, regOf(3, s, 7), true)
			wantPairs(t, r, s, minding(), 0, regOf(3, s, 0), true)
			// who is not the one that was heard of
			for _, pair := range slices.Concat(edgeNumbers, []int{-7, 6, 8, 5, 3, 7 + 1<<32}) {
				if pair != 0 {
					wantNoPairs(t, r, s, minding(), pair)
				}
			}
		}
	}
}

// How much the other one has is asked where it is to be waited for, and only there.
func TestPairsOfWhoHasAll(t *testing.T) {
	for _, count := range []int{0, 1, 2, 6, 59, 60} {
		for acked := range count + 1 {
			m := impl.Minder{Up: true, Life: 5, Epoch: 3, Log: logOf(count, count), Acked: acked, AckLife: 7}
			for said := 0; said <= count; said += 1 + count/4 {
				m.Said = said
				wantPairs(t, regOf(3, 0, 9), 0, m, 0, regOf(3, 0, 0), true)
				if acked == count {
					wantPairs(t, regOf(3, 0, 9), 0, m, 7, regOf(3, 0, 7), true)
				} else {
					wantNoPairs(t, regOf(3, 0, 9), 0, m, 7)
				}
				wantNoPairs(t, regOf(3, 0, 9), 0, m, 6)
				wantNoPairs(t, regOf(3, 0, 9), 0, m, 8)
			}
		}
		// more than there is, and fewer than none: it is no minder, and pairs with nobody
		for _, acked := range []int{-1, count + 1, math.MinInt, math.MaxInt} {
			m := impl.Minder{Up: true, Life: 5, Epoch: 3, Log: logOf(count, count), Acked: acked, AckLife: 7}
			wantNoPairs(t, regOf(3, 0, 9), 0, m, 7)
			wantNoPairs(t, regOf(3, 0, 9), 0, m, 0)
		}
	}
	// of none it has heard yet, pair 0 is right, and no other one
	m := impl.Minder{Up: true, Life: 5, Epoch: 3, Log: logOf(4, 4)}
	wantPairs(t, regOf(3, 0, 9), 0, m, 0, regOf(3, 0, 0), true)
	wantNoPairs(t, regOf(3, 0, 9), 0, m, 1)
	wantNoPairs(t, regOf(3, 0, 9), 0, m, 9)
}

func TestPairsAtTheEdgesOfLives(t *testing.T) {
	for _, life := range edgeNumbers {
		m := minderBent(minding(), func(m *impl.Minder) { m.AckLife = life })
		for owner := range 2 {
			r := regOf(3, owner, 9)
			if life >= 0 && life <= 100000 {
				wantPairs(t, r, owner, m, life, regOf(3, owner, life), true)
				wantPairs(t, r, owner, m, 0, regOf(3, owner, 0), true)
			} else {
				// it is no minder, so it does not mind
				wantNoPairs(t, r, owner, m, life)
				wantNoPairs(t, r, owner, m, 0)
			}
		}
	}
}

func TestPairsOfWhoDoesNotMind(t *testing.T) {
	r := regOf(3, 0, 9)
	for _, pair := range []int{0, 7, 9, -1, 8} {
		for _, s := range edgeNumbers {
			if s != 0 {
				wantNoPairs(t, r, s, minding(), pair)
			}
			if s != 3 {
				wantNoPairs(t, r, 0, minderBent(minding(), func(m *impl.Minder) { m.Epoch = s }), pair)
				wantNoPairs(t, regOf(s, 0, 9), 0, minding(), pair)
			}
		}
		wantNoPairs(t, r, 0, minderBent(minding(), func(m *impl.Minder) { m.Up = false }), pair)
		wantNoPairs(t, r, 0, impl.Minder{Life: 5}, pair)
		wantNoPairs(t, r, 0, impl.Minder{}, pair)
		wantNoPairs(t, impl.Reg{}, 0, impl.Minder{}, pair)
		for _, bent := range bentRegs() {
			m := minderBent(minding(), func(m *impl.Minder) { m.Epoch = bent.Epoch })
			wantNoPairs(t, bent, bent.Owner, m, pair)
			wantNoPairs(t, bent, 0, m, pair)
			wantNoPairs(t, bent, 0, minding(), bent.Pair)
		}
	}
	for _, m := range bentMinders() {
		r := regOf(min(max(m.Epoch, 1), 100000), 0, 9)
		wantNoPairs(t, r, 0, m, 0)
		wantNoPairs(t, r, 0, m, m.AckLife)
	}
}

// Few numbers, each with each.
func TestRegAsTheChapterSays(t *testing.T) {
	for epoch := range 3 {
		for owner := -1; owner < 3; owner++ {
			for pair := -1; pair < 3; pair++ {
				for s := -1; s < 3; s++ {
					eachSmallMinder(func(m impl.Minder) {
						wantRegAsPlain(t, regOf(epoch, owner, pair), s, m, -1, 0, 1, 2, 3)
					})
					if t.Failed() {
						t.FailNow()
					}
				}
			}
		}
	}
	for _, r := range slices.Concat(goodRegs(), bentRegs()) {
		for _, m := range []impl.Minder{minding(), heir(), {}, {Up: true, Life: r.Pair}, {Up: true, Life: 100000}, {Up: true, Life: r.Pair, Epoch: r.Epoch, AckLife: r.Pair}} {
			for _, s := range edgeNumbers {
				wantRegAsPlain(t, r, s, m, 0, 1, 7, r.Pair, m.AckLife, s)
			}
		}
	}
}

func eachSmallMinder(look func(m impl.Minder)) {
	for _, up := range []bool{false, true} {
		for life := range 3 {
			for epoch := range 3 {
				for count := range 2 {
					for acked := range count + 2 {
						for other := range 3 {
							look(impl.Minder{Up: up, Life: life, Epoch: epoch, Log: logOf(count, count), Acked: acked, AckLife: other})
						}
					}
				}
			}
		}
	}
}

// couple is two minders and their register, and all that ever minded of them.
type couple struct {
	reg    impl.Reg
	two    [2]impl.Minder
	minded []impl.Minder
	takes  int
}

func newCouple() *couple {
	return &couple{reg: regOf(1, 0, 0), two: [2]impl.Minder{{Up: true, Life: 1, Epoch: 1}, {Up: true, Life: 2}}}
}

// heard lets s hear how much the other one has, in which life.
func (c *couple) heard(s int, acked int) {
	if c.two[s].Up {
		c.two[s].Acked, c.two[s].AckLife = min(acked, len(c.two[s].Log)), c.two[1-s].Life
	}
}

func (c *couple) fall(s int) { c.two[s] = impl.Minder{Life: c.two[s].Life} }

func (c *couple) rise(s int) {
	if !c.two[s].Up {
		c.two[s] = impl.Minder{Up: true, Life: max(c.two[0].Life, c.two[1].Life) + 1}
	}
}

func (c *couple) pair(s int, pair int) bool {
	next, ok := impl.Pairs(c.reg, s, c.two[s], pair)
	c.reg = next
	return ok
}

// take looks at what a Take turns: all of it, or nothing.
func (c *couple) take(t *testing.T, s int) bool {
	t.Helper()
	was, had := c.reg, c.two[s]
	next, m, ok := impl.Take(c.reg, s, c.two[s])
	c.reg, c.two[s] = next, m
	if !ok {
		if next != was || !sameMinder(m, had) {
			t.Fatalf("what was refused turned: %+v %+v, was %+v %+v", next, m, was, had)
		}
		return false
	}
	c.takes++
	if next.Epoch <= was.Epoch || was.Pair == 0 || was.Pair != had.Life {
		t.Fatalf("Take(%+v, %d, %+v): %+v", was, s, had, next)
	}
	if !impl.Minds(next, s, m) {
		t.Fatalf("who took does not mind: %+v, %d, %+v", next, s, m)
	}
	return true
}

// wantOneMinds looks whether one minds at most, now and of all that ever did, at either place.
func (c *couple) wantOneMinds(t *testing.T) {
	t.Helper()
	if !impl.RegOk(c.reg) || !impl.MinderOk(c.two[0]) || !impl.MinderOk(c.two[1]) {
		t.Fatalf("it is none any more: %+v", c)
	}
	if impl.Minds(c.reg, 0, c.two[0]) && impl.Minds(c.reg, 1, c.two[1]) {
		t.Fatalf("both mind: %+v", c)
	}
	for s, m := range c.two {
		if impl.Minds(c.reg, 1-s, m) && impl.Minds(c.reg, s, m) {
			t.Fatalf("one minds at both places: %+v, %+v", c.reg, m)
		}
		if impl.Minds(c.reg, s, m) && (len(c.minded) == 0 || c.minded[len(c.minded)-1].Epoch != m.Epoch) {
			c.minded = append(c.minded, copyMinder(m))
		}
	}
	for _, m := range c.minded {
		if m.Epoch != c.reg.Epoch && (impl.Minds(c.reg, 0, m) || impl.Minds(c.reg, 1, m)) {
			t.Fatalf("one that minded once does so still: %+v, %+v", c.reg, m)
		}
	}
}

// step does one thing of those that can happen. Falls are few: where who minds falls and nobody is waited for, nobody minds from then on.
func (c *couple) step(t *testing.T, by *chooser) {
	s := by.below(2)
	switch by.below(30) {
	case 0:
		c.fall(s)
	case 1, 2, 3:
		c.rise(s)
	case 4, 5, 6:
		c.two[s], _ = impl.Note(c.two[s], by.nextIn())
	case 7, 8, 9:
		c.heard(s, by.below(len(c.two[s].Log)+1))
	case 10, 11, 12, 13, 14:
		c.heard(s, len(c.two[s].Log))
	case 15, 16:
		c.pair(s, by.below(c.two[1-s].Life+2))
	case 17, 18, 19, 20, 21:
		c.pair(s, c.two[s].AckLife)
	default:
		c.take(t, s)
	}
}

func TestOneMindsAtMost(t *testing.T) {
	takes, most := 0, 0
	for seed := range 500 {
		c, by := newCouple(), &chooser{uint64(seed)}
		for range 150 {
			c.step(t, by)
			c.wantOneMinds(t)
		}
		takes, most = takes+c.takes, max(most, c.reg.Epoch)
	}
	if takes < 400 || most < 4 {
		t.Errorf("only %d were taken over, up to number %d", takes, most)
	}
}

// Whatever is handed in, nobody minds but at the place of the owner, so nobody does at both.
func TestOneMindsAtMostOfAny(t *testing.T) {
	list := slices.Concat(goodMinders(), []impl.Minder{minding(), heir(), {Up: true, Life: 9, Epoch: 3}, {Up: true, Life: 9, Epoch: 2}})
	for _, r := range slices.Concat(goodRegs(), bentRegs(), []impl.Reg{regOf(3, 0, 7), regOf(3, 1, 7)}) {
		for _, a := range list {
			if impl.Minds(r, 0, a) && impl.Minds(r, 1, a) {
				t.Fatalf("%+v minds of %+v at both places", a, r)
			}
			if impl.Minds(r, 1-r.Owner, a) || impl.Minds(r, -1, a) || impl.Minds(r, 2, a) {
				t.Fatalf("%+v minds of %+v and is not its owner", a, r)
			}
		}
	}
}

// Where it is taken over, who minded does so no more, and gets nothing turned by what it still asks.
func TestWhoMindedMindsNoMore(t *testing.T) {
	c := newCouple()
	for round := range 40 {
		s := round % 2
		c.heard(s, 0)
		if !c.pair(s, c.two[1-s].Life) {
			t.Fatalf("does not pair: %+v", c)
		}
		past, pastReg := c.two[s], c.reg
		if !c.take(t, 1-s) {
			t.Fatalf("does not take: %+v", c)
		}
		wantMinds(t, c.reg, s, past, false)
		wantMinds(t, c.reg, 1-s, past, false)
		wantMinds(t, c.reg, 1-s, c.two[1-s], true)
		wantNoPairs(t, c.reg, s, past, 0)
		wantNoPairs(t, c.reg, s, past, past.AckLife)
		// it can't take back what does not wait for it, nor can the new one take it twice
		wantNoTake(t, c.reg, s, past)
		wantNoTake(t, c.reg, 1-s, c.two[1-s])
		// who still reads the past register finds who minded then, and not who does now
		wantMinds(t, pastReg, s, past, true)
		wantMinds(t, pastReg, 1-s, c.two[1-s], false)
		wantMinds(t, pastReg, s, c.two[1-s], false)
		c.wantOneMinds(t)
		if c.reg != regOf(round+2, 1-s, 0) {
			t.Fatalf("round %d: %+v", round, c.reg)
		}
	}
}

// A life that was is waited for no more: whoever fell has nothing of what it had.
func TestALifeThatWasIsRefused(t *testing.T) {
	for falls := range 6 {
		c := newCouple()
		for range 3 {
			c.two[0], _ = impl.Note(c.two[0], tickIn())
			c.two[1], _ = impl.Note(c.two[1], tickIn())
		}
		c.heard(0, 3)
		if !c.pair(0, 2) || c.reg != regOf(1, 0, 2) {
			t.Fatalf("does not pair: %+v", c.reg)
		}
		past := []impl.Minder{copyMinder(c.two[1])}
		for range falls {
			c.fall(1)
			wantNoTake(t, c.reg, 1, c.two[1])
			c.rise(1)
			// it has another life than the one that is waited for
			wantNoTake(t, c.reg, 1, c.two[1])
			// not even with all of the log
			wantNoTake(t, c.reg, 1, minderBent(c.two[1], func(m *impl.Minder) { m.Log = slices.Clone(past[0].Log) }))
			past = append(past, copyMinder(c.two[1]))
		}
		// who minds hears of the new life, which has to have all first
		c.heard(0, 2)
		if falls > 0 && (c.pair(0, 2) || c.pair(0, c.two[1].Life)) {
			t.Fatalf("pairs too early: %+v", c)
		}
		c.heard(0, 3)
		if !c.pair(0, c.two[1].Life) {
			t.Fatalf("does not pair: %+v", c)
		}
		for _, m := range past[:len(past)-1] {
			wantNoTake(t, c.reg, 1, m)
		}
		if !c.take(t, 1) {
			t.Fatalf("does not take: %+v", c)
		}
	}
}

// Who goes on alone can't be taken over, until it pairs again.
func TestWhoIsAloneIsNotTakenOver(t *testing.T) {
	c := newCouple()
	c.two[0], _ = impl.Note(c.two[0], tickIn())
	wantNoTake(t, c.reg, 1, c.two[1])
	c.heard(0, 1)
	if !c.pair(0, 2) {
		t.Fatalf("does not pair: %+v", c)
	}
	// one more came that the other one has not: it is gone on alone all the same
	c.two[0], _ = impl.Note(c.two[0], tickIn())
	if c.pair(0, 2) || !c.pair(0, 0) || c.reg != regOf(1, 0, 0) {
		t.Fatalf("is not alone: %+v", c)
	}
	for life := range 5 {
		wantNoTake(t, c.reg, 1, impl.Minder{Up: true, Life: life})
	}
	c.heard(0, 2)
	if !c.pair(0, 2) || !c.take(t, 1) {
		t.Fatalf("does not take: %+v", c)
	}
}

// What is asked twice of the same is answered twice the same: nothing is kept.
func TestRegKeepsNothing(t *testing.T) {
	r, m := regOf(3, 0, 7), heir()
	for range 5 {
		wantTake(t, r, 1, m, regOf(4, 1, 0), minderBent(m, func(m *impl.Minder) { m.Epoch = 4 }), true)
		wantPairs(t, r, 0, minding(), 0, regOf(3, 0, 0), true)
		wantMinds(t, r, 0, minding(), true)
		wantTake(t, regOf(50000, 1, 7), 0, m, regOf(50001, 0, 0), minderBent(m, func(m *impl.Minder) { m.Epoch = 50001 }), true)
		wantPairs(t, r, 0, minding(), 7, r, true)
		wantNoTake(t, regOf(2, 0, 8), 1, m)
	}
}

// askReg asks all of the chapter of m, so that it is taken, paired and refused.
func askReg(m impl.Minder) {
	for _, r := range []impl.Reg{{}, regOf(1, 0, 0), regOf(3, 0, m.Life), regOf(m.Epoch, 1, 2), regOf(100000, 0, m.Life), {Epoch: 3, Owner: 1, Pair: m.Life}} {
		impl.RegOk(r)
		for s := -1; s < 3; s++ {
			impl.Minds(r, s, m)
			impl.Take(r, s, m)
			impl.Pairs(r, s, m, 0)
			impl.Pairs(r, s, m, m.AckLife)
		}
	}
}

func TestRegWritesIntoNoArgument(t *testing.T) {
	// the room behind what is handed in is to stay as it is, too
	wide := slices.Concat(logOf(60, 1), []impl.In{{}, {Kind: 77}, tickIn(), linkIn(0, false)})
	kept := slices.Clone(wide)
	for count := range len(wide) + 1 {
		for _, up := range []bool{false, true} {
			askReg(impl.Minder{Up: up, Life: 1, Epoch: 1, Log: wide[:count], Acked: count, AckLife: 2})
			askReg(impl.Minder{Up: up, Life: -1, Log: wide[:count], Said: count, Acked: count + 1})
			askReg(impl.Minder{Up: up, Life: 7, Log: wide[:count]})
		}
		if !slices.Equal(wide, kept) {
			t.Fatalf("written into %d: %+v, was %+v", count, wide, kept)
		}
	}
	for _, m := range slices.Concat(goodMinders(), bentMinders()[:200]) {
		kept := copyMinder(m)
		askReg(m)
		if !sameMinder(m, kept) {
			t.Fatalf("written into: %+v, was %+v", m, kept)
		}
	}
}

// wantOwnTake writes over what Take answered, and over what it was handed, and looks whether the other ones stay.
func wantOwnTake(t *testing.T, r impl.Reg, s int, m impl.Minder) bool {
	t.Helper()
	kept := copyMinder(m)
	_, one, ok := impl.Take(r, s, m)
	_, two, _ := impl.Take(r, s, m)
	want := copyMinder(two)
	scrawl(one.Log, impl.In{Kind: 77})
	if !sameMinder(m, kept) || !sameMinder(two, want) {
		t.Fatalf("Take(%+v, %d, %+v), %v, shares memory: %+v", r, s, kept, ok, two)
	}
	// with room behind its log, too
	handed := copyMinder(m)
	handed.Log = append(slices.Grow(handed.Log, 9), impl.In{Kind: 78}, impl.In{Kind: 79})[:len(m.Log)]
	_, three, _ := impl.Take(r, s, handed)
	scrawl(three.Log, impl.In{Kind: 76})
	if behind := handed.Log[:len(m.Log)+2]; behind[len(m.Log)].Kind != 78 || behind[len(m.Log)+1].Kind != 79 || !sameMinder(handed, kept) {
		t.Fatalf("Take(%+v, %d, %+v), %v, shares memory with what is handed in: %+v", r, s, kept, ok, behind)
	}
	_, four, _ := impl.Take(r, s, handed)
	scrawl(handed.Log, impl.In{Kind: 77})
	if !sameMinder(four, want) {
		t.Fatalf("what Take(%+v, %d, %+v), %v, answered is now %+v", r, s, kept, ok, four)
	}
	return ok
}

func TestTakeSharesNoMemory(t *testing.T) {
	taken, refused := 0, 0
	for _, m := range slices.Concat(goodMinders(), bentMinders()) {
		if len(m.Log) > 200 {
			continue
		}
		for _, r := range []impl.Reg{regOf(3, 0, m.Life), regOf(3, 1, m.Life), regOf(100000, 0, m.Life), regOf(3, 0, 0), {}} {
			if wantOwnTake(t, r, 1, m) {
				taken++
			} else {
				refused++
			}
		}
	}
	if taken < 60 || refused < 200 {
		t.Errorf("%d taken, %d refused", taken, refused)
	}
}

func FuzzReg(f *testing.F) {
	f.Add(3, 0, 7, 1, true, uint8(6), 7, 0, 0, 0, 0, 0)
	f.Add(3, 0, 7, 0, true, uint8(6), 5, 3, 4, 6, 7, 7)
	f.Add(100000, 1, 100000, 0, true, uint8(60), 100000, 100000, 60, 60, 100000, 100000)
	f.Add(0, 2, -1, -1, false, uint8(0), 0, 0, 0, 0, 0, 1)
	f.Add(math.MaxInt, 1, math.MaxInt, 0, true, uint8(61), math.MaxInt, math.MinInt, 0, 0, 100001, 100001)
	f.Fuzz(func(t *testing.T, number int, owner int, paired int, s int, up bool, count uint8, life int, epoch int, said int, acked int, other int, pair int) {
		log := logOf(int(count)%64, life)
		for _, r := range []impl.Reg{regOf(number, owner, paired), regOf(number&0xffff, owner&1, paired&0xffff), regOf(epoch, s, life), regOf(number, 1-s, life)} {
			for _, m := range []impl.Minder{
				{Up: up, Life: life, Epoch: epoch, Log: log, Said: said, Acked: acked, AckLife: other},
				{Up: true, Life: r.Pair, Epoch: r.Epoch, Log: log, Said: said & 63, Acked: len(log), AckLife: pair},
				{Up: true, Life: life, Epoch: number & 0xffff, Log: log, Acked: acked & 63, AckLife: pair},
				{Up: up, Life: life}, {Up: up, Epoch: epoch}, {Up: true, Life: r.Pair},
			} {
				kept := copyMinder(m)
				for _, at := range []int{s, s & 1, owner, 1 - owner} {
					wantRegAsPlain(t, r, at, m, 0, pair, other, paired)
				}
				if !sameMinder(m, kept) {
					t.Errorf("was written into: %+v, was %+v", m, kept)
				}
			}
		}
	})
}
