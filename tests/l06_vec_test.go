package tests

import (
	"fmt"
	"math"
	"slices"
	"testing"

	"loop.example/g00470/impl"
)

func vecOf(root int, cost int, bridge int, port int) impl.Vec {
	return impl.Vec{Root: root, Cost: cost, Bridge: bridge, Port: port}
}

// goodVecs are all there are.
func goodVecs() []impl.Vec {
	var list []impl.Vec
	for port := range 4 {
		for bridge := 1; bridge <= 9; bridge++ {
			list = append(list, vecOf(bridge, 0, bridge, port))
			for root := 1; root < bridge; root++ {
				for cost := 1; cost <= 20; cost++ {
					list = append(list, vecOf(root, cost, bridge, port))
				}
			}
		}
	}
	return list
}

// bentVecs can't be claimed, each for one reason or several.
func bentVecs() []impl.Vec {
	return []impl.Vec{
		{}, vecOf(-1, -1, -1, -1),
		// who is the least is none
		vecOf(0, 1, 1, 0), vecOf(0, 1, 9, 0), vecOf(-1, 1, 1, 0), vecOf(-9, 1, 9, 3), vecOf(10, 1, 9, 0), vecOf(10, 0, 9, 0), vecOf(math.MinInt, 1, 1, 0), vecOf(math.MaxInt, 1, 9, 0),
		// who says so is none
		vecOf(1, 1, 0, 0), vecOf(1, 0, 0, 0), vecOf(1, 1, -1, 0), vecOf(1, 1, 10, 0), vecOf(9, 1, 10, 0), vecOf(1, 20, 10, 3), vecOf(1, 1, math.MaxInt, 0), vecOf(1, 1, math.MinInt, 0),
		// nor is either, though they are one
		vecOf(0, 0, 0, 0), vecOf(10, 0, 10, 0), vecOf(-1, 0, -1, 0), vecOf(math.MinInt, 0, math.MinInt, 0), vecOf(math.MaxInt, 0, math.MaxInt, 0),
		// one above itself is the least
		vecOf(2, 1, 1, 0), vecOf(2, 0, 1, 0), vecOf(9, 20, 8, 3), vecOf(9, 0, 8, 3), vecOf(9, 1, 1, 0), vecOf(9, 0, 1, 0),
		// 0 away from another one
		vecOf(1, 0, 2, 0), vecOf(1, 0, 9, 3), vecOf(8, 0, 9, 0),
		// away from itself
		vecOf(1, 1, 1, 0), vecOf(1, 20, 1, 0), vecOf(9, 1, 9, 3), vecOf(9, 20, 9, 0),
		// too near or too far
		vecOf(1, -1, 1, 0), vecOf(1, -1, 2, 0), vecOf(1, 21, 1, 0), vecOf(1, 21, 2, 0), vecOf(8, 21, 9, 3), vecOf(1, math.MinInt, 2, 0), vecOf(1, math.MaxInt, 2, 0), vecOf(1, 256, 2, 0), vecOf(1, 1<<32, 1, 0),
		// at a port that is none
		vecOf(1, 0, 1, -1), vecOf(1, 0, 1, 4), vecOf(1, 1, 2, -1), vecOf(1, 1, 2, 4), vecOf(8, 20, 9, 4), vecOf(1, 1, 2, math.MinInt), vecOf(1, 1, 2, math.MaxInt), vecOf(1, 1, 2, 256), vecOf(1, 1, 2, 1<<32),
	}
}

// wildVecs are of numbers beyond all limits, in each place.
func wildVecs() []impl.Vec {
	wild := []int{math.MinInt, math.MinInt + 1, -1, 0, 1, math.MaxInt - 1, math.MaxInt}
	var list []impl.Vec
	for _, root := range wild {
		for _, cost := range wild {
			for _, bridge := range wild {
				for _, port := range wild {
					list = append(list, vecOf(root, cost, bridge, port))
				}
			}
		}
	}
	return list
}

// plainVecOk, and plainBetter, say again what the chapter says.
func plainVecOk(v impl.Vec) bool {
	if v.Root < 1 || v.Root > 9 || v.Bridge < 1 || v.Bridge > 9 || v.Root > v.Bridge {
		return false
	}
	if v.Cost < 0 || v.Cost > 20 || v.Port < 0 || v.Port >= 4 {
		return false
	}
	if v.Root == v.Bridge {
		return v.Cost == 0
	}
	return v.Cost != 0
}

func plainBetter(a impl.Vec, b impl.Vec) bool {
	return slices.Compare([]int{a.Root, a.Cost, a.Bridge, a.Port}, []int{b.Root, b.Cost, b.Bridge, b.Port}) < 0
}

// wantBetter wants a to be better than b, and b not than a.
func wantBetter(t *testing.T, a impl.Vec, b impl.Vec) {
	t.Helper()
	if !impl.Better(a, b) || impl.Better(b, a) {
		t.Errorf("%v and %v: %v %v, want true false", a, b, impl.Better(a, b), impl.Better(b, a))
	}
}

func wantAlike(t *testing.T, a impl.Vec, b impl.Vec) {
	t.Helper()
	if impl.Better(a, b) || impl.Better(b, a) {
		t.Errorf("%v and %v: %v %v, want false false", a, b, impl.Better(a, b), impl.Better(b, a))
	}
}

func TestVecLimits(t *testing.T) {
	if impl.MaxBridge != 9 || impl.MaxCost != 20 {
		t.Error("limits", impl.MaxBridge, impl.MaxCost)
	}
}

func TestVecOk(t *testing.T) {
	good := goodVecs()
	if len(good) != 4*(9+36*20) {
		t.Fatal("claims", len(good))
	}
	for _, v := range good {
		if !impl.VecOk(v) {
			t.Errorf("VecOk(%v): false", v)
		}
	}
	for _, v := range bentVecs() {
		if impl.VecOk(v) {
			t.Errorf("VecOk(%v): true", v)
		}
	}
}

func TestVecOkAtItsEdges(t *testing.T) {
	for _, c := range []struct {
		v    impl.Vec
		want bool
	}{
		{vecOf(0, 0, 0, 0), false}, {vecOf(1, 0, 1, 0), true}, {vecOf(9, 0, 9, 0), true}, {vecOf(10, 0, 10, 0), false},
		{vecOf(0, 1, 9, 0), false}, {vecOf(1, 1, 9, 0), true}, {vecOf(8, 1, 9, 0), true}, {vecOf(9, 1, 9, 0), false}, {vecOf(10, 1, 9, 0), false},
		{vecOf(1, 1, 0, 0), false}, {vecOf(1, 1, 1, 0), false}, {vecOf(1, 1, 2, 0), true}, {vecOf(1, 1, 10, 0), false},
		{vecOf(3, 0, 2, 0), false}, {vecOf(3, 1, 2, 0), false}, {vecOf(3, 0, 3, 0), true}, {vecOf(3, 1, 3, 0), false}, {vecOf(3, 0, 4, 0), false}, {vecOf(3, 1, 4, 0), true},
		{vecOf(1, -1, 2, 0), false}, {vecOf(1, 0, 2, 0), false}, {vecOf(1, 1, 2, 0), true}, {vecOf(1, 20, 2, 0), true}, {vecOf(1, 21, 2, 0), false},
		{vecOf(2, -1, 2, 0), false}, {vecOf(2, 0, 2, 0), true}, {vecOf(2, 1, 2, 0), false}, {vecOf(2, 20, 2, 0), false}, {vecOf(2, 21, 2, 0), false},
		{vecOf(1, 1, 2, -1), false}, {vecOf(1, 1, 2, 0), true}, {vecOf(1, 1, 2, 3), true}, {vecOf(1, 1, 2, 4), false},
	} {
		if got := impl.VecOk(c.v); got != c.want {
			t.Errorf("VecOk(%v): %v", c.v, got)
		}
	}
}

func TestVecOkAsTheChapterSays(t *testing.T) {
	for root := -2; root <= 12; root++ {
		for bridge := -2; bridge <= 12; bridge++ {
			for cost := -2; cost <= 23; cost++ {
				for port := -2; port <= 6; port++ {
					if v := vecOf(root, cost, bridge, port); impl.VecOk(v) != plainVecOk(v) {
						t.Fatalf("VecOk(%v): %v", v, impl.VecOk(v))
					}
				}
			}
		}
	}
	for _, v := range wildVecs() {
		if impl.VecOk(v) != plainVecOk(v) {
			t.Fatalf("VecOk(%v): %v", v, impl.VecOk(v))
		}
	}
}

func TestBetterByOnePart(t *testing.T) {
	wantBetter(t, vecOf(1, 2, 5, 1), vecOf(2, 2, 5, 1))
	wantBetter(t, vecOf(1, 2, 5, 1), vecOf(1, 3, 5, 1))
	wantBetter(t, vecOf(1, 2, 5, 1), vecOf(1, 2, 6, 1))
	wantBetter(t, vecOf(1, 2, 5, 1), vecOf(1, 2, 5, 2))
	// 10 is behind 9, though its digits are ahead of it
	wantBetter(t, vecOf(1, 9, 5, 1), vecOf(1, 10, 5, 1))
	// who is the least itself
	wantBetter(t, vecOf(1, 0, 1, 0), vecOf(2, 0, 2, 0))
	wantBetter(t, vecOf(1, 0, 1, 0), vecOf(1, 0, 1, 1))
	wantAlike(t, vecOf(1, 0, 1, 0), vecOf(1, 0, 1, 0))
}

func TestBetterByPartsAtOdds(t *testing.T) {
	// what is named first counts, whatever all the others say
	wantBetter(t, vecOf(1, 20, 9, 3), vecOf(2, 0, 2, 0))
	wantBetter(t, vecOf(1, 20, 9, 3), vecOf(2, 1, 3, 0))
	wantBetter(t, vecOf(1, 1, 9, 3), vecOf(1, 2, 2, 0))
	wantBetter(t, vecOf(1, 0, 1, 3), vecOf(1, 1, 2, 0))
	wantBetter(t, vecOf(1, 2, 3, 3), vecOf(1, 2, 4, 0))
	// two of them at odds, the others alike
	wantBetter(t, vecOf(1, 5, 7, 2), vecOf(2, 4, 7, 2))
	wantBetter(t, vecOf(1, 5, 7, 2), vecOf(2, 5, 6, 2))
	wantBetter(t, vecOf(1, 5, 7, 2), vecOf(2, 5, 7, 1))
	wantBetter(t, vecOf(1, 5, 7, 2), vecOf(1, 6, 6, 2))
	wantBetter(t, vecOf(1, 5, 7, 2), vecOf(1, 6, 7, 1))
	wantBetter(t, vecOf(1, 5, 7, 2), vecOf(1, 5, 8, 1))
}

func TestOfTwoThatAreNotAlikeOneIsBetter(t *testing.T) {
	list := append(goodVecs(), bentVecs()...)
	for _, a := range list {
		for _, b := range list {
			ab, ba := impl.Better(a, b), impl.Better(b, a)
			if a == b && (ab || ba) || a != b && ab == ba {
				t.Fatalf("%v and %v: %v %v", a, b, ab, ba)
			}
			if ab != plainBetter(a, b) {
				t.Fatalf("Better(%v, %v): %v", a, b, ab)
			}
		}
	}
}

func TestBetterOfWildNumbers(t *testing.T) {
	wantBetter(t, vecOf(math.MinInt, 0, 0, 0), vecOf(math.MaxInt, 0, 0, 0))
	wantBetter(t, vecOf(0, math.MinInt, 0, 0), vecOf(0, math.MaxInt, 0, 0))
	wantBetter(t, vecOf(0, 0, math.MinInt, 0), vecOf(0, 0, math.MaxInt, 0))
	wantBetter(t, vecOf(0, 0, 0, math.MinInt), vecOf(0, 0, 0, math.MaxInt))
	wantBetter(t, vecOf(-1, 5, 5, 5), vecOf(0, -5, -5, -5))
	wantBetter(t, vecOf(math.MaxInt-1, math.MaxInt, math.MaxInt, math.MaxInt), vecOf(math.MaxInt, math.MinInt, math.MinInt, math.MinInt))
	// as great in its low bits
	wantBetter(t, vecOf(1, 2, 3, 0), vecOf(1+1<<32, 2, 3, 0))
	wantBetter(t, vecOf(1, 2, 3, 0), vecOf(1, 2, 3, 256))
	list := wildVecs()
	for _, a := range list {
		for _, b := range list {
			if impl.Better(a, b) != plainBetter(a, b) {
				t.Fatalf("Better(%v, %v): %v", a, b, impl.Better(a, b))
			}
		}
	}
}

// In order, each is better than all behind it.
func TestBetterPutsAllInOrder(t *testing.T) {
	list := slices.Concat(goodVecs(), bentVecs(), wildVecs())
	slices.SortFunc(list, func(a impl.Vec, b impl.Vec) int {
		if impl.Better(a, b) {
			return -1
		}
		if impl.Better(b, a) {
			return 1
		}
		return 0
	})
	list = slices.Compact(list)
	for i, a := range list {
		for _, b := range list[i+1:] {
			if !impl.Better(a, b) || impl.Better(b, a) {
				t.Fatalf("%v ahead of %v: %v %v", a, b, impl.Better(a, b), impl.Better(b, a))
			}
		}
	}
}

func TestVecText(t *testing.T) {
	for _, c := range []struct {
		v    impl.Vec
		want string
	}{
		{vecOf(1, 2, 3, 1), "1.2.3.1"}, {vecOf(4, 3, 8, 2), "4.3.8.2"}, {vecOf(1, 0, 1, 0), "1.0.1.0"}, {vecOf(9, 0, 9, 3), "9.0.9.3"}, {vecOf(8, 20, 9, 3), "8.20.9.3"},
		// of what can't be claimed, too
		{impl.Vec{}, "0.0.0.0"}, {vecOf(10, 21, 10, 4), "10.21.10.4"}, {vecOf(9, 1, 1, 0), "9.1.1.0"}, {vecOf(-1, -2, -3, -4), "-1.-2.-3.-4"}, {vecOf(1000000, 100, 12, 1234567), "1000000.100.12.1234567"},
		{vecOf(math.MinInt, math.MaxInt, math.MinInt, math.MaxInt), "-9223372036854775808.9223372036854775807.-9223372036854775808.9223372036854775807"},
	} {
		if got := impl.VecText(c.v); got != c.want {
			t.Errorf("VecText(%v): %q, want %q", c.v, got, c.want)
		}
	}
}

func TestVecTextTellsEachApart(t *testing.T) {
	told := map[string]impl.Vec{}
	for _, v := range slices.Concat(goodVecs(), bentVecs(), wildVecs()) {
		text := impl.VecText(v)
		if want := fmt.Sprintf("%d.%d.%d.%d", v.Root, v.Cost, v.Bridge, v.Port); text != want {
			t.Fatalf("VecText(%v): %q, want %q", v, text, want)
		}
		if other, ok := told[text]; ok && other != v {
			t.Fatalf("VecText(%v) and VecText(%v): %q", v, other, text)
		}
		told[text] = v
	}
}

func FuzzVec(f *testing.F) {
	f.Add(1, 2, 3, 1, 1, 1, 9, 2)
	f.Add(1, 0, 1, 0, 1, 0, 1, 0)
	f.Add(math.MinInt, 0, math.MaxInt, -1, math.MaxInt, 20, 9, 3)
	f.Fuzz(func(t *testing.T, root int, cost int, bridge int, port int, root2 int, cost2 int, bridge2 int, port2 int) {
		a, b := vecOf(root, cost, bridge, port), vecOf(root2, cost2, bridge2, port2)
		// and one that is unlike in what is behind Root alone, which two of any numbers hardly ever are
		c := vecOf(root, cost2, bridge, port2)
		for _, v := range []impl.Vec{a, b, c} {
			if impl.VecOk(v) != plainVecOk(v) {
				t.Errorf("VecOk(%v): %v", v, impl.VecOk(v))
			}
			if want := fmt.Sprintf("%d.%d.%d.%d", v.Root, v.Cost, v.Bridge, v.Port); impl.VecText(v) != want {
				t.Errorf("VecText(%v): %q", v, impl.VecText(v))
			}
			for _, w := range []impl.Vec{a, b, c} {
				if impl.Better(v, w) != plainBetter(v, w) {
					t.Errorf("Better(%v, %v): %v", v, w, impl.Better(v, w))
				}
			}
		}
	})
}
