package tests

import (
	"bytes"
	"math"
	"slices"
	"testing"

	"loop.example/g00470/impl"
)

// netLists are all lists of nets in order, none twice: the empty one first, all four last.
func netLists() [][]int {
	var lists [][]int
	for marks := range 16 {
		var in []int
		for net := 1; net <= 4; net++ {
			if marks>>(net-1)&1 == 1 {
				in = append(in, net)
			}
		}
		lists = append(lists, in)
	}
	return lists
}

// goodMembers are all there are: of each own net the lists with it.
func goodMembers() []impl.Member {
	var list []impl.Member
	for own := 1; own <= 4; own++ {
		for _, in := range netLists() {
			if slices.Contains(in, own) {
				list = append(list, impl.Member{Own: own, In: in})
			}
		}
	}
	return list
}

// bentMembers are of no port, each for one reason or several.
func bentMembers() []impl.Member {
	list := []impl.Member{
		{}, {Own: 1}, {Own: 4}, {In: []int{}}, {Own: 1, In: []int{}},
		// an own net beyond the limits, in a list that is right and in one that has it
		{Own: 0, In: []int{1, 2}}, {Own: 5, In: []int{1, 2, 3, 4}}, {Own: -1, In: []int{1}}, {Own: 0, In: []int{0}}, {Own: 0, In: []int{0, 1}}, {Own: 5, In: []int{5}}, {Own: 5, In: []int{4, 5}}, {Own: -1, In: []int{-1, 1}},
		{Own: math.MaxInt, In: []int{1}}, {Own: math.MinInt, In: []int{1}}, {Own: math.MaxInt, In: []int{math.MaxInt}}, {Own: math.MinInt, In: []int{math.MinInt}},
		// its own is not among them
		{Own: 1, In: []int{2}}, {Own: 1, In: []int{2, 3, 4}}, {Own: 2, In: []int{1, 3, 4}}, {Own: 3, In: []int{1, 2, 4}}, {Own: 4, In: []int{1, 2, 3}}, {Own: 3, In: []int{1}},
		// out of order
		{Own: 1, In: []int{2, 1}}, {Own: 2, In: []int{2, 1}}, {Own: 4, In: []int{4, 3, 2, 1}}, {Own: 1, In: []int{1, 3, 2}}, {Own: 1, In: []int{1, 2, 4, 3}}, {Own: 1, In: []int{2, 1, 3, 4}},
		// one twice
		{Own: 1, In: []int{1, 1}}, {Own: 4, In: []int{4, 4}}, {Own: 1, In: []int{1, 2, 2}}, {Own: 2, In: []int{1, 1, 2}}, {Own: 1, In: []int{1, 2, 1}}, {Own: 1, In: []int{1, 2, 3, 4, 4}}, {Own: 1, In: []int{1, 1, 2, 3, 4}}, {Own: 1, In: []int{1, 2, 3, 4, 1, 2, 3, 4}},
		// below 1 or above 4, beside what is right
		{Own: 1, In: []int{0, 1}}, {Own: 1, In: []int{-1, 1}}, {Own: 1, In: []int{1, 5}}, {Own: 4, In: []int{4, 5}}, {Own: 1, In: []int{0, 1, 2, 3, 4}}, {Own: 1, In: []int{1, 2, 3, 4, 5}}, {Own: 1, In: []int{1, 0}}, {Own: 1, In: []int{5, 1}},
		{Own: 1, In: []int{1, math.MaxInt}}, {Own: 1, In: []int{math.MinInt, 1}}, {Own: 1, In: []int{1, 2, 256}}, {Own: 1, In: []int{1, 257}}, {Own: 1, In: []int{-255, 1}},
		{Own: 1, In: make([]int, 1000)}, {Own: 1, In: slices.Repeat([]int{1}, 1000)},
	}
	for own := range 6 {
		for _, in := range netLists() {
			if !slices.Contains(in, own) {
				list = append(list, impl.Member{Own: own, In: in})
			}
		}
	}
	return list
}

// plainMemberOk, and plainInside and plainOutside, say again what the chapter says, by the list alone.
func plainMemberOk(m impl.Member) bool {
	for i, net := range m.In {
		if net < 1 || net > 4 || i > 0 && m.In[i-1] >= net {
			return false
		}
	}
	return slices.Contains(m.In, m.Own)
}

func plainInside(m impl.Member, f impl.Frame) (impl.Frame, bool) {
	if f.Vlan == 0 {
		f.Vlan = m.Own
	}
	if !plainMemberOk(m) || !impl.FrameOk(f) || !slices.Contains(m.In, f.Vlan) {
		return impl.Frame{}, false
	}
	return f, true
}

func plainOutside(m impl.Member, f impl.Frame) (impl.Frame, bool) {
	if !plainMemberOk(m) || !impl.FrameOk(f) || !slices.Contains(m.In, f.Vlan) {
		return impl.Frame{}, false
	}
	if f.Vlan == m.Own {
		f.Vlan = 0
	}
	return f, true
}

func sameFrame(a impl.Frame, b impl.Frame) bool {
	return a.To == b.To && a.From == b.From && a.Vlan == b.Vlan && bytes.Equal(a.Load, b.Load)
}

func wantInside(t *testing.T, m impl.Member, f impl.Frame, want impl.Frame, in bool) {
	t.Helper()
	if got, ok := impl.Inside(m, f); ok != in || !sameFrame(got, want) {
		t.Errorf("Inside(%v, %v): %v %v, want %v %v", m, f, got, ok, want, in)
	}
}

func wantOutside(t *testing.T, m impl.Member, f impl.Frame, want impl.Frame, out bool) {
	t.Helper()
	if got, ok := impl.Outside(m, f); ok != out || !sameFrame(got, want) {
		t.Errorf("Outside(%v, %v): %v %v, want %v %v", m, f, got, ok, want, out)
	}
}

// framesOfNets are of each net, and of none.
func framesOfNets() []impl.Frame {
	var list []impl.Frame
	for vlan := range 5 {
		list = append(list, impl.Frame{From: 1, Vlan: vlan},
			impl.Frame{To: 2, From: 1, Vlan: vlan, Load: []byte("hi")},
			impl.Frame{To: 9, From: 9, Vlan: vlan, Load: loadOf(30)})
	}
	return list
}

func TestMemberOk(t *testing.T) {
	good := goodMembers()
	if len(good) != 32 {
		t.Fatal("members", len(good))
	}
	for _, m := range good {
		if !impl.MemberOk(m) {
			t.Errorf("MemberOk(%v): false", m)
		}
	}
	for _, m := range bentMembers() {
		if impl.MemberOk(m) {
			t.Errorf("MemberOk(%v): true", m)
		}
	}
}

func TestMemberOkAsTheChapterSays(t *testing.T) {
	lists := [][]int{nil}
	for at := 0; at < len(lists); at++ {
		if len(lists[at]) < 5 {
			for net := -1; net <= 5; net++ {
				lists = append(lists, append(slices.Clone(lists[at]), net))
			}
		}
		for own := -1; own <= 6; own++ {
			m := impl.Member{Own: own, In: lists[at]}
			if got := impl.MemberOk(m); got != plainMemberOk(m) {
				t.Fatalf("MemberOk(%v): %v", m, got)
			}
		}
	}
}

func TestInside(t *testing.T) {
	m := impl.Member{Own: 2, In: []int{1, 2, 4}}
	load := []byte("hi")
	// one that says no net is of the port's own
	wantInside(t, m, impl.Frame{To: 3, From: 1, Load: load}, impl.Frame{To: 3, From: 1, Vlan: 2, Load: load}, true)
	wantInside(t, m, impl.Frame{From: 9}, impl.Frame{From: 9, Vlan: 2}, true)
	// one that says a net that the port is in stays as it is, also of the port's own
	wantInside(t, m, impl.Frame{To: 3, From: 1, Vlan: 1, Load: load}, impl.Frame{To: 3, From: 1, Vlan: 1, Load: load}, true)
	wantInside(t, m, impl.Frame{To: 3, From: 1, Vlan: 2, Load: load}, impl.Frame{To: 3, From: 1, Vlan: 2, Load: load}, true)
	wantInside(t, m, impl.Frame{To: 3, From: 1, Vlan: 4, Load: load}, impl.Frame{To: 3, From: 1, Vlan: 4, Load: load}, true)
	// one of a net that it is not in
	wantInside(t, m, impl.Frame{To: 3, From: 1, Vlan: 3, Load: load}, impl.Frame{}, false)
	wantInside(t, m, impl.Frame{From: 1, Vlan: 3}, impl.Frame{}, false)
}

func TestOutside(t *testing.T) {
	m := impl.Member{Own: 2, In: []int{1, 2, 4}}
	load := []byte("hi")
	// of the port's own net it says none
	wantOutside(t, m, impl.Frame{To: 3, From: 1, Vlan: 2, Load: load}, impl.Frame{To: 3, From: 1, Load: load}, true)
	wantOutside(t, m, impl.Frame{From: 9, Vlan: 2}, impl.Frame{From: 9}, true)
	wantOutside(t, m, impl.Frame{To: 3, From: 1, Vlan: 1, Load: load}, impl.Frame{To: 3, From: 1, Vlan: 1, Load: load}, true)
	wantOutside(t, m, impl.Frame{To: 3, From: 1, Vlan: 4, Load: load}, impl.Frame{To: 3, From: 1, Vlan: 4, Load: load}, true)
	wantOutside(t, m, impl.Frame{To: 3, From: 1, Vlan: 3, Load: load}, impl.Frame{}, false)
	// inside each says its net: one that says none is in no net
	wantOutside(t, m, impl.Frame{To: 3, From: 1, Load: load}, impl.Frame{}, false)
	wantOutside(t, m, impl.Frame{From: 1}, impl.Frame{}, false)
}

func TestFrameThatSaysNoNet(t *testing.T) {
	for _, m := range goodMembers() {
		for _, load := range [][]byte{nil, []byte("hi"), loadOf(30)} {
			f := impl.Frame{To: 3, From: 1, Load: load}
			wantInside(t, m, f, impl.Frame{To: 3, From: 1, Vlan: m.Own, Load: load}, true)
			wantOutside(t, m, f, impl.Frame{}, false)
		}
	}
	for _, m := range bentMembers() {
		wantInside(t, m, impl.Frame{To: 3, From: 1}, impl.Frame{}, false)
		wantOutside(t, m, impl.Frame{To: 3, From: 1}, impl.Frame{}, false)
	}
}

func TestNetsAsTheChapterSays(t *testing.T) {
	frames := slices.Concat(goodFrames(), badFrames(), framesOfNets())
	for _, m := range append(goodMembers(), bentMembers()...) {
		for _, f := range frames {
			want, ok := plainInside(m, f)
			wantInside(t, m, f, want, ok)
			want, ok = plainOutside(m, f)
			wantOutside(t, m, f, want, ok)
		}
	}
}

func TestNetsOfWhatIsNone(t *testing.T) {
	for _, m := range bentMembers() {
		for _, f := range framesOfNets() {
			wantInside(t, m, f, impl.Frame{}, false)
			wantOutside(t, m, f, impl.Frame{}, false)
		}
	}
	for _, m := range goodMembers() {
		for _, f := range badFrames() {
			wantInside(t, m, f, impl.Frame{}, false)
			wantOutside(t, m, f, impl.Frame{}, false)
		}
		// a net that is one, all else not
		for _, vlan := range []int{0, m.Own} {
			for _, f := range []impl.Frame{{To: 10, From: 1}, {To: -1, From: 1}, {From: 0}, {From: 10}, {From: 1, Load: loadOf(31)}} {
				f.Vlan = vlan
				wantInside(t, m, f, impl.Frame{}, false)
				wantOutside(t, m, f, impl.Frame{}, false)
			}
		}
	}
}

func TestWhatGoesOutComesInAsItWas(t *testing.T) {
	for _, m := range goodMembers() {
		for _, f := range append(goodFrames(), framesOfNets()...) {
			out, went := impl.Outside(m, f)
			if went != slices.Contains(m.In, f.Vlan) {
				t.Fatalf("Outside(%v, %v): %v", m, f, went)
			}
			if went {
				wantInside(t, m, out, f, true)
			}
			// and what came in says its own net no more
			in, came := impl.Inside(m, f)
			if came != (f.Vlan == 0 || slices.Contains(m.In, f.Vlan)) || came && in.Vlan == 0 {
				t.Fatalf("Inside(%v, %v): %v %v", m, f, in, came)
			}
			if came {
				want := f
				if f.Vlan == m.Own {
					want.Vlan = 0
				}
				wantOutside(t, m, in, want, true)
			}
		}
	}
}

func TestNetsShareNoMemory(t *testing.T) {
	m := impl.Member{Own: 2, In: []int{1, 2}}
	for vlan := range 3 {
		load := append([]byte("hi"), "behind"...)[:2]
		f := impl.Frame{To: 2, From: 1, Vlan: vlan, Load: load}
		var got []impl.Frame
		for _, by := range []func(impl.Member, impl.Frame) (impl.Frame, bool){impl.Inside, impl.Outside, impl.Inside} {
			if g, ok := by(m, f); ok {
				got = append(got, g)
			}
		}
		for i := range got {
			if string(got[i].Load) != "hi" {
				t.Errorf("the load is %q", got[i].Load)
			}
			got[i].Load[0] = byte(i)
			got[i].Load = append(got[i].Load, "more"...)
		}
		if string(load[:8]) != "hibehind" {
			t.Errorf("was written into: %q", load[:8])
		}
		load[1] = 'x'
		for i := range got {
			if got[i].Load[0] != byte(i) || got[i].Load[1] != 'i' {
				t.Errorf("what was answered is now %q", got[i].Load)
			}
		}
	}
}

func TestNetsWriteIntoNoArgument(t *testing.T) {
	// the room behind what is handed in is to stay as it is, too
	room := []int{1, 2, 3, 4, 5, 0, 4, 3, 2, 1, 1}
	load := loadOf(40)
	kept, was := slices.Clone(room), slices.Clone(load)
	for from := range room {
		for end := from; end <= len(room); end++ {
			for own := range 6 {
				m := impl.Member{Own: own, In: room[from:end]}
				impl.MemberOk(m)
				for _, n := range []int{0, 1, 30, 31} {
					for vlan := range 6 {
						impl.Inside(m, impl.Frame{To: 2, From: 1, Vlan: vlan, Load: load[:n]})
						impl.Outside(m, impl.Frame{To: 2, From: 1, Vlan: vlan, Load: load[:n]})
					}
				}
			}
		}
	}
	if !slices.Equal(room, kept) || !bytes.Equal(load, was) {
		t.Errorf("written into: %v and %x", room, load)
	}
}

func FuzzNets(f *testing.F) {
	f.Add(2, []byte{1, 2}, 3, 1, 2, []byte("hi"))
	f.Add(0, []byte{}, 0, 0, 0, []byte{})
	f.Fuzz(func(t *testing.T, own int, nets []byte, to int, from int, vlan int, load []byte) {
		m := impl.Member{Own: own}
		for _, b := range nets {
			m.In = append(m.In, int(int8(b)))
		}
		if impl.MemberOk(m) != plainMemberOk(m) {
			t.Errorf("MemberOk(%v): %v", m, impl.MemberOk(m))
		}
		g := impl.Frame{To: to, From: from, Vlan: vlan, Load: load}
		want, ok := plainInside(m, g)
		wantInside(t, m, g, want, ok)
		want, ok = plainOutside(m, g)
		wantOutside(t, m, g, want, ok)
		if ok {
			wantInside(t, m, want, g, true)
		}
	})
}
