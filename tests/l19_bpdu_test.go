package tests

import (
	"bytes"
	"encoding/binary"
	"encoding/hex"
	"fmt"
	"math"
	"slices"
	"strings"
	"sync"
	"testing"

	"loop.example/g00470/impl"
)

// allRoles are those of a port, whether it is there or not.
var allRoles = []int{impl.RoOff, impl.RoRoot, impl.RoDes, impl.RoAlt}

// beyondRoles are such as no port has; some are one again in a byte, or in the bits of a role.
var beyondRoles = []int{math.MinInt, -4, -3, -2, -1, 4, 5, 6, 7, 256, 256 + impl.RoDes, 1 << 32, 1<<32 + impl.RoRoot, math.MaxInt}

// flagsSets is how many sets of flags there are.
const flagsSets = 32

// bpduOf has each flag by a bit of set, as they stand in the struct: 1 for Change, 16 for Open.
func bpduOf(set int, role int, v impl.Vec, hops int) impl.Bpdu {
	return impl.Bpdu{Change: set&1 != 0, Ask: set&2 != 0, Agree: set&4 != 0, Learn: set&8 != 0, Open: set&16 != 0, Role: role, Vec: v, Hops: hops}
}

// goodBpdus have each Vec by each Hops, and by each role; the flags go round. And a few have each set of flags by each role.
func goodBpdus() []impl.Bpdu {
	var list []impl.Bpdu
	for at, v := range goodVecs() {
		for hops := range 9 {
			for _, role := range allRoles {
				list = append(list, bpduOf((at+hops*7+role*5)%flagsSets, role, v, hops))
			}
		}
	}
	for _, v := range fewVecs() {
		for set := range flagsSets {
			for _, role := range allRoles {
				list = append(list, bpduOf(set, role, v, (set+role)%9))
			}
		}
	}
	return list
}

// fewBpdus are the least and the greatest one of each part, and some between.
func fewBpdus() []impl.Bpdu {
	var list []impl.Bpdu
	for at, v := range fewVecs() {
		list = append(list, bpduOf(0, allRoles[at%4], v, 0), bpduOf(31, allRoles[(at+1)%4], v, 8), bpduOf(at, allRoles[(at+2)%4], v, at%9))
	}
	return list
}

// bentBpdus can't be sent, each for one reason or several.
func bentBpdus() []impl.Bpdu {
	list := []impl.Bpdu{{}, {Change: true}, {Role: impl.RoDes}, {Role: impl.RoDes, Hops: 1}}
	for set := range flagsSets {
		list = append(list, bpduOf(set, impl.RoDes, impl.Vec{}, 0))
	}
	for at, v := range slices.Concat(bentVecs(), wildVecs()) {
		if plainVecOk(v) {
			continue
		}
		list = append(list, bpduOf(at%flagsSets, allRoles[at%4], v, at%9))
	}
	for at, v := range fewVecs() {
		for _, role := range beyondRoles {
			list = append(list, bpduOf(at, role, v, at%9))
		}
		for _, hops := range noHops {
			list = append(list, bpduOf(at, allRoles[at%4], v, hops))
		}
	}
	return append(list, bpduOf(31, 4, vecOf(1, 0, 2, 0), 9), bpduOf(31, -1, impl.Vec{}, -1))
}

// plainBpduOk, and the plain ones behind it, say again what the chapter says.
func plainBpduOk(b impl.Bpdu) bool {
	return slices.Contains(allRoles, b.Role) && plainVecOk(b.Vec) && b.Hops >= 0 && b.Hops <= 8
}

func plainFlags(b impl.Bpdu) int {
	flags := map[int]int{2: 12, 1: 8, 3: 4}[b.Role]
	for bit, is := range map[int]bool{1: b.Change, 2: b.Ask, 16: b.Learn, 32: b.Open, 64: b.Agree} {
		if is {
			flags |= bit
		}
	}
	return flags
}

var plainForm36 = "00000202" + "%02x" + "80" + strings.Repeat("00", 6) + "%02x" + "%08x" + "80" + strings.Repeat("00", 6) + "%02x" + "80%02x" + "%02x00" + "0800" + "0200" + "0f00" + "00"

func plainBpduBytes(b impl.Bpdu) []byte {
	if !plainBpduOk(b) {
		return nil
	}
	text := fmt.Sprintf(plainForm36, plainFlags(b), b.Vec.Root, b.Vec.Cost*20000, b.Vec.Bridge, b.Vec.Port+1, b.Hops)
	list, _ := hex.DecodeString(text)
	return list
}

// plainByFlags has each set of flags with each role by its number.
var plainByFlags = func() map[int]impl.Bpdu {
	all := map[int]impl.Bpdu{}
	for set := range flagsSets {
		for _, role := range allRoles {
			b := bpduOf(set, role, impl.Vec{}, 0)
			all[plainFlags(b)] = b
		}
	}
	return all
}()

// plainBpduOf goes through all costs.
func plainBpduOf(b []byte) (impl.Bpdu, bool) {
	if len(b) != 36 {
		return impl.Bpdu{}, false
	}
	x, ok := plainByFlags[int(b[4])]
	if !ok {
		return impl.Bpdu{}, false
	}
	for cost := range 21 {
		x.Vec, x.Hops = vecOf(int(b[12]), cost, int(b[24]), int(b[26])-1), int(b[27])
		if binary.BigEndian.Uint32(b[13:]) == uint32(20000*cost) && bytes.Equal(plainBpduBytes(x), b) {
			return x, true
		}
	}
	return impl.Bpdu{}, false
}

func wantBpdu(t *testing.T, b []byte, want impl.Bpdu) {
	t.Helper()
	if x, ok := impl.BpduOf(b); x != want || !ok {
		t.Fatalf("BpduOf(%x): %+v %v, want %+v", b, x, ok, want)
	}
}

func wantNoBpdu(t *testing.T, b []byte) {
	t.Helper()
	if x, ok := impl.BpduOf(b); x != (impl.Bpdu{}) || ok {
		t.Fatalf("BpduOf(%x): %+v %v, want none", b, x, ok)
	}
}

func wantBpduAsPlain(t *testing.T, b []byte) bool {
	t.Helper()
	x, ok := impl.BpduOf(b)
	if want, is := plainBpduOf(b); x != want || ok != is {
		t.Fatalf("BpduOf(%x): %+v %v, want %+v %v", b, x, ok, want, is)
	}
	return ok
}

func wantNoClaimIn(t *testing.T, b impl.Bpdu, port int) {
	t.Helper()
	if x, ok := impl.ClaimIn(b, port); x != (impl.In{}) || ok {
		t.Fatalf("ClaimIn(%+v, %d): %+v %v, want none", b, port, x, ok)
	}
}

// turnedAt is b with that byte there.
func turnedAt(b []byte, at int, c byte) []byte {
	b = slices.Clone(b)
	b[at] = c
	return b
}

// withCost is the bytes of b with that cost as it goes over the wire.
func withCost(b []byte, cost uint32) []byte {
	b = slices.Clone(b)
	binary.BigEndian.PutUint32(b[13:], cost)
	return b
}

func TestBpduOk(t *testing.T) {
	v := vecOf(2, 1, 5, 3)
	for _, c := range []struct {
		b    impl.Bpdu
		want bool
	}{
		// each role, and one beyond on each side
		{bpduOf(0, impl.RoOff, v, 1), true}, {bpduOf(0, impl.RoRoot, v, 1), true}, {bpduOf(0, impl.RoDes, v, 1), true}, {bpduOf(0, impl.RoAlt, v, 1), true},
		{bpduOf(0, -1, v, 1), false}, {bpduOf(0, 4, v, 1), false}, {bpduOf(31, -1, v, 1), false}, {bpduOf(31, 4, v, 1), false},
		// Hops at and beyond each end
		{bpduOf(0, 2, v, 0), true}, {bpduOf(0, 2, v, 8), true}, {bpduOf(0, 2, v, -1), false}, {bpduOf(0, 2, v, 9), false},
		// what can't be claimed
		{bpduOf(0, 2, vecOf(2, 0, 5, 3), 1), false}, {bpduOf(0, 2, vecOf(5, 1, 5, 3), 1), false}, {bpduOf(0, 2, vecOf(2, 21, 5, 3), 1), false}, {bpduOf(0, 2, vecOf(2, 1, 10, 3), 1), false}, {bpduOf(0, 2, vecOf(2, 1, 5, 4), 1), false}, {bpduOf(0, 2, vecOf(0, 1, 5, 3), 1), false},
		{impl.Bpdu{}, false}, {impl.Bpdu{Vec: vecOf(1, 0, 1, 0)}, true},
	} {
		if got := impl.BpduOk(c.b); got != c.want {
			t.Errorf("BpduOk(%+v): %v", c.b, got)
		}
	}
	for _, b := range goodBpdus() {
		if !impl.BpduOk(b) {
			t.Fatalf("BpduOk(%+v): false", b)
		}
	}
	for _, b := range bentBpdus() {
		if impl.BpduOk(b) {
			t.Fatalf("BpduOk(%+v): true", b)
		}
	}
}

func TestFlagsOfEach(t *testing.T) {
	for _, c := range []struct {
		b    impl.Bpdu
		want int
	}{
		{impl.Bpdu{}, 0},
		// each flag alone
		{impl.Bpdu{Change: true}, 1}, {impl.Bpdu{Ask: true}, 2}, {impl.Bpdu{Learn: true}, 16}, {impl.Bpdu{Open: true}, 32}, {impl.Bpdu{Agree: true}, 64},
		// each role alone
		{impl.Bpdu{Role: impl.RoOff}, 0}, {impl.Bpdu{Role: impl.RoAlt}, 4}, {impl.Bpdu{Role: impl.RoRoot}, 8}, {impl.Bpdu{Role: impl.RoDes}, 12},
		// all together
		{bpduOf(31, impl.RoOff, impl.Vec{}, 0), 115}, {bpduOf(31, impl.RoAlt, impl.Vec{}, 0), 119}, {bpduOf(31, impl.RoRoot, impl.Vec{}, 0), 123}, {bpduOf(31, impl.RoDes, impl.Vec{}, 0), 127},
		{impl.Bpdu{Ask: true, Learn: true, Role: impl.RoDes, Vec: vecOf(2, 1, 5, 3), Hops: 1}, 30}, {impl.Bpdu{Agree: true, Role: impl.RoRoot, Vec: vecOf(2, 1, 5, 3), Hops: 1}, 72},
	} {
		if got := impl.FlagsOf(c.b); got != c.want {
			t.Errorf("FlagsOf(%+v): %d, want %d", c.b, got, c.want)
		}
	}
}

// The flags are told of what can't be sent, too; a role that is none has no bits.
func TestFlagsOfWhatCannotBeSent(t *testing.T) {
	for _, role := range beyondRoles {
		for set := range flagsSets {
			want := impl.FlagsOf(bpduOf(set, impl.RoOff, vecOf(1, 0, 1, 0), 0))
			for _, b := range []impl.Bpdu{bpduOf(set, role, vecOf(1, 0, 1, 0), 0), bpduOf(set, role, vecOf(-1, 9, 77, -3), math.MinInt)} {
				if got := impl.FlagsOf(b); got != want {
					t.Fatalf("FlagsOf(%+v): %d, want %d", b, got, want)
				}
			}
		}
	}
	for _, b := range slices.Concat(goodBpdus(), bentBpdus()) {
		if got := impl.FlagsOf(b); got != plainFlags(b) {
			t.Fatalf("FlagsOf(%+v): %d, want %d", b, got, plainFlags(b))
		}
	}
}

// Who has other flags, or another role, has another number, from 0 to 127.
func TestFlagsOfTellsEachApart(t *testing.T) {
	told := map[int]bool{}
	for set := range flagsSets {
		for _, role := range allRoles {
			told[impl.FlagsOf(bpduOf(set, role, vecOf(1, 0, 1, 0), 0))] = true
		}
	}
	for flags := range 128 {
		if !told[flags] {
			t.Errorf("nobody has %d", flags)
		}
	}
	if len(told) != 128 {
		t.Errorf("there are %d", len(told))
	}
}

func TestBpduBytes(t *testing.T) {
	for _, c := range []struct {
		b    impl.Bpdu
		want string
	}{
		{bpduOf(0, impl.RoOff, vecOf(1, 0, 1, 0), 0), "00000202" + "00" + "8000000000000001" + "00000000" + "8000000000000001" + "8001" + "0000" + "0800" + "0200" + "0f00" + "00"},
		{bpduOf(31, impl.RoDes, vecOf(8, 20, 9, 3), 8), "00000202" + "7f" + "8000000000000008" + "00061a80" + "8000000000000009" + "8004" + "0800" + "0800" + "0200" + "0f00" + "00"},
		{bpduOf(0, impl.RoDes, vecOf(9, 0, 9, 3), 0), "00000202" + "0c" + "8000000000000009" + "00000000" + "8000000000000009" + "8004" + "0000" + "0800" + "0200" + "0f00" + "00"},
		{impl.Bpdu{Ask: true, Learn: true, Role: impl.RoDes, Vec: vecOf(2, 1, 5, 3), Hops: 1}, "00000202" + "1e" + "8000000000000002" + "00004e20" + "8000000000000005" + "8004" + "0100" + "0800" + "0200" + "0f00" + "00"},
		{impl.Bpdu{Open: true, Role: impl.RoRoot, Vec: vecOf(3, 4, 7, 1), Hops: 4}, "00000202" + "28" + "8000000000000003" + "00013880" + "8000000000000007" + "8002" + "0400" + "0800" + "0200" + "0f00" + "00"},
		{impl.Bpdu{Agree: true, Change: true, Role: impl.RoAlt, Vec: vecOf(1, 13, 2, 2), Hops: 7}, "00000202" + "45" + "8000000000000001" + "0003f7a0" + "8000000000000002" + "8003" + "0700" + "0800" + "0200" + "0f00" + "00"},
	} {
		if got := hex.EncodeToString(impl.BpduBytes(c.b)); got != c.want {
			t.Errorf("BpduBytes(%+v): %s, want %s", c.b, got, c.want)
		}
	}
	for _, b := range goodBpdus() {
		if got := impl.BpduBytes(b); len(got) != 36 || !bytes.Equal(got, plainBpduBytes(b)) {
			t.Fatalf("BpduBytes(%+v): %x, want %x", b, got, plainBpduBytes(b))
		}
	}
	for _, b := range bentBpdus() {
		if got := impl.BpduBytes(b); len(got) != 0 {
			t.Fatalf("BpduBytes(%+v): %x, want nothing", b, got)
		}
	}
}

func TestBpduIsReadAsItWas(t *testing.T) {
	for _, b := range goodBpdus() {
		wantBpdu(t, impl.BpduBytes(b), b)
		wantBpdu(t, plainBpduBytes(b), b)
	}
}

func TestBpduThatIsCutIsNone(t *testing.T) {
	wantNoBpdu(t, nil)
	wantNoBpdu(t, []byte{})
	for _, x := range fewBpdus() {
		b := impl.BpduBytes(x)
		for at := range b {
			// whether the rest stands in the room behind it or not
			wantNoBpdu(t, b[:at])
			wantNoBpdu(t, slices.Clone(b[:at]))
			wantNoBpdu(t, b[at+1:])
			wantNoBpdu(t, slices.Delete(slices.Clone(b), at, at+1))
			// as long as it was, with what was cut off as 0
			if short := append(slices.Clone(b[:at]), make([]byte, 36-at)...); wantBpduAsPlain(t, short) && at < 28 {
				t.Fatalf("BpduOf(%x): true", short)
			}
		}
	}
}

func TestBpduWithMoreIsNone(t *testing.T) {
	for _, x := range fewBpdus() {
		b := impl.BpduBytes(x)
		for c := range 256 {
			wantNoBpdu(t, append(slices.Clone(b), byte(c)))
			wantNoBpdu(t, append([]byte{byte(c)}, b...))
		}
		for at := range b {
			wantNoBpdu(t, slices.Insert(slices.Clone(b), at, 0))
			wantNoBpdu(t, slices.Insert(slices.Clone(b), at, b[at]))
		}
		wantNoBpdu(t, append(slices.Clone(b), b...))
	}
	for size := range 100 {
		wantNoBpdu(t, make([]byte, size))
		wantNoBpdu(t, bytes.Repeat([]byte{255}, size))
		wantNoBpdu(t, bytes.Repeat([]byte{128}, size))
	}
}

// How many bytes there are that one may be turned to, so that another claim is read: each other one makes none of it.
func TestBpduThatIsBentInOneByte(t *testing.T) {
	x := impl.Bpdu{Ask: true, Learn: true, Role: impl.RoDes, Vec: vecOf(2, 1, 5, 3), Hops: 1}
	b := impl.BpduBytes(x)
	// flags below 128; a Root from 1 to 4; a Bridge from 3 to 9; a Port from 0 to 3; Hops from 0 to 8: each but the one that it was
	others := map[int]int{4: 127, 12: 3, 24: 6, 26: 3, 27: 8}
	for at := range b {
		count := 0
		for c := range 256 {
			if bent := turnedAt(b, at, byte(c)); byte(c) != b[at] && wantBpduAsPlain(t, bent) {
				count++
			}
		}
		if count != others[at] {
			t.Errorf("byte %d may be %d others, want %d", at, count, others[at])
		}
	}
	for _, x := range fewBpdus() {
		b := impl.BpduBytes(x)
		for at := range b {
			for c := range 256 {
				bent := turnedAt(b, at, byte(c))
				if y, ok := impl.BpduOf(bent); ok && !bytes.Equal(impl.BpduBytes(y), bent) || ok && byte(c) != b[at] && y == x {
					t.Fatalf("BpduOf(%x): %+v", bent, y)
				}
				wantBpduAsPlain(t, bent)
			}
		}
	}
}

func TestBpduOfEachPart(t *testing.T) {
	b := impl.BpduBytes(bpduOf(0, impl.RoDes, vecOf(2, 1, 5, 3), 1))
	for _, c := range []struct {
		at   int
		to   byte
		want impl.Bpdu
	}{
		{4, 0, bpduOf(0, impl.RoOff, vecOf(2, 1, 5, 3), 1)}, {4, 4, bpduOf(0, impl.RoAlt, vecOf(2, 1, 5, 3), 1)}, {4, 8, bpduOf(0, impl.RoRoot, vecOf(2, 1, 5, 3), 1)}, {4, 13, impl.Bpdu{Change: true, Role: impl.RoDes, Vec: vecOf(2, 1, 5, 3), Hops: 1}},
		{4, 14, impl.Bpdu{Ask: true, Role: impl.RoDes, Vec: vecOf(2, 1, 5, 3), Hops: 1}}, {4, 28, impl.Bpdu{Learn: true, Role: impl.RoDes, Vec: vecOf(2, 1, 5, 3), Hops: 1}}, {4, 44, impl.Bpdu{Open: true, Role: impl.RoDes, Vec: vecOf(2, 1, 5, 3), Hops: 1}},
		{4, 76, impl.Bpdu{Agree: true, Role: impl.RoDes, Vec: vecOf(2, 1, 5, 3), Hops: 1}}, {4, 127, bpduOf(31, impl.RoDes, vecOf(2, 1, 5, 3), 1)}, {4, 115, bpduOf(31, impl.RoOff, vecOf(2, 1, 5, 3), 1)},
		{12, 1, bpduOf(0, impl.RoDes, vecOf(1, 1, 5, 3), 1)}, {12, 4, bpduOf(0, impl.RoDes, vecOf(4, 1, 5, 3), 1)}, {24, 3, bpduOf(0, impl.RoDes, vecOf(2, 1, 3, 3), 1)}, {24, 9, bpduOf(0, impl.RoDes, vecOf(2, 1, 9, 3), 1)},
		{26, 1, bpduOf(0, impl.RoDes, vecOf(2, 1, 5, 0), 1)}, {26, 3, bpduOf(0, impl.RoDes, vecOf(2, 1, 5, 2), 1)}, {27, 0, bpduOf(0, impl.RoDes, vecOf(2, 1, 5, 3), 0)}, {27, 8, bpduOf(0, impl.RoDes, vecOf(2, 1, 5, 3), 8)},
	} {
		wantBpdu(t, turnedAt(b, c.at, c.to), c.want)
	}
	for _, c := range []struct {
		at int
		to byte
	}{
		// what no flag and no role has
		{4, 128}, {4, 128 + 12}, {4, 255},
		// who is the least, and who says so: none, above, the same but 1 away
		{12, 0}, {12, 5}, {12, 6}, {12, 9}, {12, 10}, {12, 128}, {12, 130}, {12, 255}, {24, 0}, {24, 1}, {24, 2}, {24, 10}, {24, 133}, {24, 255},
		// the weight of one, and the bytes between
		{5, 0}, {5, 127}, {5, 129}, {5, 255}, {6, 1}, {6, 128}, {11, 1}, {11, 255}, {17, 0}, {17, 127}, {17, 129}, {18, 1}, {23, 1}, {23, 255}, {25, 0}, {25, 127}, {25, 129},
		// ports and hops beyond each end
		{26, 0}, {26, 5}, {26, 132}, {26, 255}, {27, 9}, {27, 10}, {27, 128}, {27, 255},
		// what is always the same
		{0, 1}, {1, 1}, {2, 0}, {2, 3}, {3, 0}, {3, 1}, {28, 1}, {29, 0}, {29, 7}, {29, 9}, {30, 1}, {31, 0}, {31, 1}, {31, 3}, {32, 1}, {33, 0}, {33, 14}, {33, 16}, {34, 1}, {35, 1}, {35, 255},
	} {
		wantNoBpdu(t, turnedAt(b, c.at, c.to))
	}
}

func TestBpduOfBitsOfFlags(t *testing.T) {
	b := impl.BpduBytes(bpduOf(0, impl.RoOff, vecOf(2, 1, 5, 3), 1))
	for flags := range 256 {
		bent := turnedAt(b, 4, byte(flags))
		if flags > 127 {
			wantNoBpdu(t, bent)
			continue
		}
		role := []int{impl.RoOff, impl.RoAlt, impl.RoRoot, impl.RoDes}[flags>>2&3]
		wantBpdu(t, bent, impl.Bpdu{Change: flags&1 != 0, Ask: flags&2 != 0, Learn: flags&16 != 0, Open: flags&32 != 0, Agree: flags&64 != 0, Role: role, Vec: vecOf(2, 1, 5, 3), Hops: 1})
	}
}

func TestBpduOfCosts(t *testing.T) {
	x := bpduOf(5, impl.RoDes, vecOf(2, 1, 5, 3), 1)
	b := impl.BpduBytes(x)
	for cost := range 21 {
		x.Vec.Cost = cost
		if cost > 0 {
			wantBpdu(t, withCost(b, uint32(cost*20000)), x)
		}
		for by := 1; by < 20000; by++ {
			wantNoBpdu(t, withCost(b, uint32(cost*20000+by)))
		}
	}
	// nothing, though another one is the least; too much, by one or by many; such as are a right one once they wrap round
	for _, cost := range []uint32{0, 420000, 420001, 440000, 20000 * 256, 20000 * 257, 20000 * 65536, 1 << 31, 1<<31 + 20000, 1<<32 - 20000, 1<<32 - 7296, 1<<32 - 1, 0x204e0000, 0x00204e00, 0x4e200000, 0x004e2000, 0x00010000} {
		wantNoBpdu(t, withCost(b, cost))
	}
	// of one that is the least itself: nothing alone
	own := impl.BpduBytes(bpduOf(5, impl.RoDes, vecOf(5, 0, 5, 3), 1))
	wantBpdu(t, withCost(own, 0), bpduOf(5, impl.RoDes, vecOf(5, 0, 5, 3), 1))
	for cost := uint32(1); cost < 450000; cost++ {
		if _, ok := impl.BpduOf(withCost(own, cost)); ok {
			t.Fatalf("a cost of %d is read of one that is the least itself", cost)
		}
	}
}

// What would be right one by one, and is not together.
func TestBpduOfPartsThatDoNotFit(t *testing.T) {
	b := impl.BpduBytes(bpduOf(5, impl.RoDes, vecOf(2, 1, 5, 3), 1))
	for root := range 12 {
		for bridge := range 12 {
			for cost := range 23 {
				bent := withCost(turnedAt(turnedAt(b, 12, byte(root)), 24, byte(bridge)), uint32(cost*20000))
				v := vecOf(root, cost, bridge, 3)
				if !plainVecOk(v) {
					wantNoBpdu(t, bent)
					continue
				}
				wantBpdu(t, bent, bpduOf(5, impl.RoDes, v, 1))
			}
		}
	}
	// two parts in each other's place
	wantNoBpdu(t, slices.Concat(b[:5], b[17:25], b[13:17], b[5:13], b[25:]))
	wantNoBpdu(t, slices.Concat(b[:5], b[5:13], b[17:25], b[13:17], b[25:]))
	wantNoBpdu(t, slices.Concat(b[:25], b[27:29], b[25:27], b[29:]))
	backwards := slices.Clone(b)
	slices.Reverse(backwards)
	wantNoBpdu(t, backwards)
}

func TestClaimIn(t *testing.T) {
	x := impl.Bpdu{Ask: true, Learn: true, Role: impl.RoDes, Vec: vecOf(2, 1, 5, 3), Hops: 1}
	for port := range 4 {
		if in, ok := impl.ClaimIn(x, port); in != claimIn(port, vecOf(2, 1, 5, 3), 1) || !ok {
			t.Errorf("ClaimIn(%+v, %d): %+v %v", x, port, in, ok)
		}
	}
	for _, port := range []int{math.MinInt, -256, -2, -1, 4, 5, 9, 256, 257, 1 << 32, 1<<32 + 1, math.MaxInt} {
		wantNoClaimIn(t, x, port)
		wantNoClaimIn(t, impl.Bpdu{}, port)
	}
	for at, b := range goodBpdus() {
		port := at % 4
		if in, ok := impl.ClaimIn(b, port); in != claimIn(port, b.Vec, b.Hops) || !ok || !impl.InOk(in) {
			t.Fatalf("ClaimIn(%+v, %d): %+v %v", b, port, in, ok)
		}
		if at%17 == 0 {
			wantNoClaimIn(t, b, wildNumbers[at%4])
		}
	}
	for _, b := range bentBpdus() {
		for port := -1; port < 5; port++ {
			wantNoClaimIn(t, b, port)
		}
	}
	// what could come in as a claim, of one that can't be sent
	for _, role := range beyondRoles {
		wantNoClaimIn(t, bpduOf(0, role, vecOf(2, 1, 5, 3), 1), 1)
	}
}

// The flags and the role turn nothing of what it is to the bridge that it comes to.
func TestClaimInIsOfVecAndHopsAlone(t *testing.T) {
	for at, v := range fewVecs() {
		for set := range flagsSets {
			for _, role := range allRoles {
				if in, ok := impl.ClaimIn(bpduOf(set, role, v, at%9), at%4); in != claimIn(at%4, v, at%9) || !ok {
					t.Fatalf("ClaimIn(%+v): %+v %v", bpduOf(set, role, v, at%9), in, ok)
				}
			}
		}
	}
}

// A bridge that hears the bytes of what another one claims does what it does where it hears the claim itself.
func TestClaimOverTheWire(t *testing.T) {
	for _, b := range goodBridges() {
		for at, v := range fewVecs() {
			port, hops := at%len(b.Ports), at%9
			sent, ok := impl.BpduOf(impl.BpduBytes(bpduOf(at, impl.RoDes, v, hops)))
			in, is := impl.ClaimIn(sent, port)
			got, said := impl.React(b, in)
			want, told := impl.React(b, claimIn(port, v, hops))
			if !ok || !is || !sameBridge(got, want) || !slices.Equal(said, told) {
				t.Fatalf("%+v: %+v %+v, want %+v %+v", in, got, said, want, told)
			}
		}
	}
}

func TestBpduKeepsNothing(t *testing.T) {
	list := append(fewBpdus(), bentBpdus()[:60]...)
	for range 3 {
		for at, x := range list {
			b := impl.BpduBytes(x)
			if !bytes.Equal(b, plainBpduBytes(x)) || impl.FlagsOf(x) != plainFlags(x) || impl.BpduOk(x) != plainBpduOk(x) {
				t.Fatalf("%+v: %x %d", x, b, impl.FlagsOf(x))
			}
			wantBpduAsPlain(t, b)
			if in, ok := impl.ClaimIn(x, at%4); ok != plainBpduOk(x) || ok && in != claimIn(at%4, x.Vec, x.Hops) {
				t.Fatalf("ClaimIn(%+v, %d): %+v %v", x, at%4, in, ok)
			}
			scrawl(b, 77)
			wantBpduAsPlain(t, b)
		}
	}
}

func TestBpduByManyAtOnce(t *testing.T) {
	list := fewBpdus()
	var all sync.WaitGroup
	for by := range 12 {
		all.Go(func() {
			for at := range 200 {
				x := list[(at*by+by)%len(list)]
				b := impl.BpduBytes(x)
				if y, ok := impl.BpduOf(b); !bytes.Equal(b, plainBpduBytes(x)) || y != x || !ok {
					t.Errorf("%+v: %x, read as %+v %v", x, b, y, ok)
				}
				scrawl(b, 77)
			}
		})
	}
	all.Wait()
}

func TestBpduSharesNoMemory(t *testing.T) {
	for _, x := range fewBpdus() {
		first, second := impl.BpduBytes(x), impl.BpduBytes(x)
		scrawl(first, 77)
		wantBpdu(t, second, x)
		y, _ := impl.BpduOf(second)
		scrawl(second, 77)
		if y != x || !bytes.Equal(impl.BpduBytes(x), plainBpduBytes(x)) {
			t.Fatalf("what was answered is now %+v and %x", y, impl.BpduBytes(x))
		}
	}
}

func TestBpduWritesIntoNoArgument(t *testing.T) {
	for _, x := range append(fewBpdus(), bpduOf(0, impl.RoDes, vecOf(2, 1, 5, 3), 1)) {
		// the room behind what is handed in is to stay as it is, too
		b := append(impl.BpduBytes(x), 9, 8, 7, 6, 5, 4, 3, 2, 1)
		for at := range 36 {
			for _, bent := range [][]byte{slices.Clone(b), turnedAt(b, at, b[at]^1), turnedAt(b, at, 255)} {
				kept := slices.Clone(bent)
				for _, end := range []int{0, at, 35, 36, 37, len(bent)} {
					impl.BpduOf(bent[:end])
				}
				if !bytes.Equal(bent, kept) {
					t.Fatalf("written into: %x, was %x", bent, kept)
				}
			}
		}
	}
}

func FuzzBpdu(f *testing.F) {
	for _, x := range append(fewBpdus()[:12], bentBpdus()[:4]...) {
		f.Add(impl.BpduBytes(x), plainFlags(x)&31, x.Role, x.Vec.Root, x.Vec.Cost, x.Vec.Bridge, x.Vec.Port, x.Hops, 1)
	}
	f.Fuzz(func(t *testing.T, b []byte, set int, role int, root int, cost int, bridge int, port int, hops int, at int) {
		x := bpduOf(set, role, vecOf(root, cost, bridge, port), hops)
		kept := slices.Clone(b)
		if impl.BpduOk(x) != plainBpduOk(x) || impl.FlagsOf(x) != plainFlags(x) || !bytes.Equal(impl.BpduBytes(x), plainBpduBytes(x)) {
			t.Errorf("%+v: %v %d %x", x, impl.BpduOk(x), impl.FlagsOf(x), impl.BpduBytes(x))
		}
		in, ok := impl.ClaimIn(x, at)
		if want := claimIn(at, x.Vec, hops); ok != (plainBpduOk(x) && plainInOk(want)) || ok && in != want || !ok && in != (impl.In{}) {
			t.Errorf("ClaimIn(%+v, %d): %+v %v", x, at, in, ok)
		}
		wantBpduAsPlain(t, b)
		// and what is one but for a few bytes, which any bytes hardly ever are
		near := impl.BpduBytes(bpduOf(set, role&3, vecOf(root&7+1, 1, 9, port&3), hops&7))
		for i, c := range b {
			near[(i*7+at&63)%36] ^= c
			wantBpduAsPlain(t, near)
		}
		if !bytes.Equal(b, kept) {
			t.Errorf("written into: %x, was %x", b, kept)
		}
	})
}
