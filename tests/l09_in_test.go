package tests

import (
	"bytes"
	"fmt"
	"math"
	"slices"
	"testing"

	"loop.example/g00470/impl"
)

// allIns are all that can come in.
func allIns() []impl.In {
	list := []impl.In{tickIn()}
	for port := range 4 {
		list = append(list, linkIn(port, true), linkIn(port, false))
		for _, v := range goodVecs() {
			for hops := range 9 {
				list = append(list, claimIn(port, v, hops))
			}
		}
	}
	return list
}

// plainInBytes says again what the chapter says: all numbers of what can come in are below 128, and so a byte each.
func plainInBytes(x impl.In) []byte {
	if !plainInOk(x) {
		return nil
	}
	b := []byte{byte(x.Kind), byte(x.Port)}
	switch {
	case x.Kind == 1:
		b = append(b, byte(x.Vec.Root), byte(x.Vec.Cost), byte(x.Vec.Bridge), byte(x.Vec.Port), byte(x.Hops))
	case x.Kind == 3 && x.Up:
		b = append(b, 1)
	case x.Kind == 3:
		b = append(b, 0)
	}
	return withSum(b)
}

// book has each that can come in by its bytes.
type book map[string]impl.In

func newBook() book {
	all := book{}
	for _, x := range allIns() {
		all[string(plainInBytes(x))] = x
	}
	return all
}

// inOf looks up what begins there: a tick takes 6 bytes, a link 7, a claim 11.
func (all book) inOf(b []byte, at int) (impl.In, int, bool) {
	if at < 0 || at > len(b) {
		return impl.In{}, 0, false
	}
	for _, size := range []int{6, 7, 11} {
		if size > len(b)-at {
			continue
		}
		if x, ok := all[string(b[at:at+size])]; ok {
			return x, at + size, true
		}
	}
	return impl.In{}, 0, false
}

func (all book) allOf(b []byte) ([]impl.In, int) {
	var list []impl.In
	at := 0
	for {
		x, behind, ok := all.inOf(b, at)
		if !ok {
			return list, at
		}
		list = append(list, x)
		at = behind
	}
}

func wantIn(t *testing.T, b []byte, at int, want impl.In, behind int) {
	t.Helper()
	if x, next, ok := impl.InOf(b, at); x != want || next != behind || !ok {
		t.Errorf("InOf(%x, %d): %+v %d %v, want %+v %d", b, at, x, next, ok, want, behind)
	}
}

func wantNoIn(t *testing.T, b []byte, at int) {
	t.Helper()
	if x, next, ok := impl.InOf(b, at); x != (impl.In{}) || next != 0 || ok {
		t.Errorf("InOf(%x, %d): %+v %d %v, want none", b, at, x, next, ok)
	}
}

func wantAllOf(t *testing.T, b []byte, want []impl.In, used int) {
	t.Helper()
	if list, n := impl.AllOf(b); !slices.Equal(list, want) || n != used {
		t.Errorf("AllOf(%x): %+v %d, want %+v %d", b, list, n, want, used)
	}
}

func TestInBytes(t *testing.T) {
	for _, c := range []struct {
		x    impl.In
		want string
	}{
		{tickIn(), "\x02\x00\x03\x00\x06\x00"},
		{linkIn(0, false), "\x03\x00\x00\x04\x00\x0c\x00"},
		{linkIn(0, true), "\x03\x00\x01\x05\x00\x0d\x00"},
		{linkIn(3, true), "\x03\x03\x01\x08\x00\x13\x00"},
		{linkIn(2, false), "\x03\x02\x00\x06\x00\x10\x00"},
		{claimIn(1, vecOf(2, 1, 3, 0), 4), "\x01\x01\x02\x01\x03\x00\x04\x0d\x00\x2f\x00"},
		{claimIn(0, vecOf(1, 0, 1, 0), 0), "\x01\x00\x01\x00\x01\x00\x00\x04\x00\x16\x00"},
		// all at their limits
		{claimIn(3, vecOf(8, 20, 9, 3), 8), "\x01\x03\x08\x14\x09\x03\x08\x35\x00\xc1\x00"},
		{claimIn(3, vecOf(9, 0, 9, 3), 8), "\x01\x03\x09\x00\x09\x03\x08\x22\x00\x76\x00"},
	} {
		if got := impl.InBytes(c.x); string(got) != c.want {
			t.Errorf("InBytes(%+v): %x, want %x", c.x, got, c.want)
		}
	}
}

func TestInBytesOfAll(t *testing.T) {
	for _, x := range allIns() {
		if got := impl.InBytes(x); !bytes.Equal(got, plainInBytes(x)) {
			t.Fatalf("InBytes(%+v): %x, want %x", x, got, plainInBytes(x))
		}
	}
}

// The last four bytes are the sum, the low ones first.
func TestInBytesEndWithTheirSum(t *testing.T) {
	for _, x := range goodIns() {
		b := impl.InBytes(x)
		at := len(b) - 4
		if sum := impl.SumOf(b[:at]); sum != int(b[at])|int(b[at+1])<<8|int(b[at+2])<<16|int(b[at+3])<<24 {
			t.Errorf("InBytes(%+v): %x, the sum is %x", x, b, sum)
		}
	}
}

func TestInBytesOfWhatCantComeIn(t *testing.T) {
	v := vecOf(1, 0, 1, 0)
	list := append(bentIns(), claimIn(0, v, impl.MaxHops+1), linkIn(impl.MaxPorts, true), linkIn(-1, false), claimIn(impl.MaxPorts, v, 0), claimIn(-1, v, 0),
		// such as are a Kind, a Port or Hops again as a byte
		impl.In{Kind: 256 + impl.InTick}, impl.In{Kind: -254}, impl.In{Kind: 256 + impl.InLink, Port: 1, Up: true}, impl.In{Kind: 257, Vec: v}, linkIn(256, true), linkIn(-256, true), claimIn(256, v, 0), claimIn(0, v, 256), claimIn(0, v, -256))
	for _, x := range list {
		if got := impl.InBytes(x); len(got) != 0 {
			t.Errorf("InBytes(%+v): %x, want nothing", x, got)
		}
	}
	if len(impl.InBytes(claimIn(impl.MaxPorts-1, v, impl.MaxHops))) != 11 {
		t.Error("a claim at the last port, by MaxHops, is refused")
	}
}

func TestInIsReadAsItWas(t *testing.T) {
	for _, x := range allIns() {
		b := impl.InBytes(x)
		wantIn(t, b, 0, x, len(b))
		between := slices.Concat([]byte{9, 0x80}, b, []byte{0, 255, 1})
		wantIn(t, between, 2, x, 2+len(b))
		wantIn(t, between[:2+len(b)], 2, x, 2+len(b))
		wantIn(t, between[2:], 0, x, len(b))
		if t.Failed() {
			t.Fatalf("of %+v", x)
		}
	}
}

// No two have the same bytes, nor do those of one begin with those of another one: what begins at a place is one.
func TestInBytesTellEachApart(t *testing.T) {
	all := newBook()
	if len(all) != len(allIns()) {
		t.Fatalf("%d have %d texts of bytes", len(allIns()), len(all))
	}
	for text, x := range all {
		for size := range text {
			if other, ok := all[text[:size]]; ok {
				t.Fatalf("the bytes of %+v begin with those of %+v", x, other)
			}
		}
	}
}

func TestInThatIsCutIsNone(t *testing.T) {
	wantNoIn(t, nil, 0)
	wantNoIn(t, []byte{}, 0)
	for _, x := range goodIns() {
		b := impl.InBytes(x)
		later := append([]byte{7, 7, 7}, b...)
		for i := range b {
			wantNoIn(t, slices.Clone(b[:i]), 0)
			// the rest stands in the spare room
			wantNoIn(t, b[:i], 0)
			wantNoIn(t, later[:3+i], 3)
		}
		for i := 1; i < len(b); i++ {
			wantNoIn(t, b[i:], 0)
			wantNoIn(t, b, i)
			wantNoIn(t, slices.Delete(slices.Clone(b), i, i+1), 0)
		}
	}
}

func TestInThatIsBentIsNone(t *testing.T) {
	for _, x := range []impl.In{tickIn(), linkIn(0, false), linkIn(0, true), linkIn(3, true), claimIn(0, vecOf(1, 0, 1, 0), 0), claimIn(1, vecOf(2, 1, 3, 0), 4), claimIn(3, vecOf(8, 20, 9, 3), 8)} {
		b := impl.InBytes(x)
		for i := range b {
			for by := 1; by < 256; by++ {
				bent := slices.Clone(b)
				bent[i] ^= byte(by)
				wantNoIn(t, bent, 0)
			}
		}
		at := len(b) - 4
		wantNoIn(t, append(slices.Clone(b[:at]), b[at+3], b[at+2], b[at+1], b[at]), 0)
		wantNoIn(t, append(slices.Clone(b[:at]), 0, 0, 0, 0), 0)
	}
}

func TestInOfNoPlace(t *testing.T) {
	b := impl.AllBytes([]impl.In{tickIn(), linkIn(2, true)})
	for _, at := range []int{math.MinInt, math.MinInt + 1, -256, -13, -7, -6, -2, -1, 13, 14, 15, 100, 1 << 31, 1 << 32, 1<<32 + 6, math.MaxInt - 11, math.MaxInt - 4, math.MaxInt - 1, math.MaxInt} {
		wantNoIn(t, b, at)
		wantNoIn(t, nil, at)
	}
	for at := range b {
		if at != 0 && at != 6 {
			wantNoIn(t, b, at)
		}
	}
	wantIn(t, b, 0, tickIn(), 6)
	wantIn(t, b, 6, linkIn(2, true), 13)
}

// What no InBytes wrote, though its sum is right.
func TestInOfOtherBytes(t *testing.T) {
	for _, b := range [][]byte{
		// nothing, a Kind alone, or too few numbers
		{}, {1}, {2}, {3}, {3, 0}, {1, 0}, {1, 0, 1, 0, 1, 0},
		// a Kind that is none
		{0, 0}, {4, 0}, {5, 0}, {127, 0}, {0, 0, 0}, {4, 0, 1}, {0, 0, 1, 0, 1, 0, 0}, {4, 0, 1, 0, 1, 0, 0}, {0x82, 2, 0}, {0x83, 2, 1, 1}, {0x81, 2, 0, 1, 0, 1, 0, 0}, {0xff, 0xff, 0xff, 0xff, 7, 0},
		// not in its shortest form
		{0x82, 0, 0}, {2, 0x80, 0}, {0x83, 0, 1, 1}, {3, 0x81, 0, 1}, {3, 1, 0x81, 0}, {3, 1, 0x80, 0}, {3, 1, 0x81, 0x80, 0},
		{0x81, 0, 0, 1, 0, 1, 0, 0}, {1, 0x80, 0, 1, 0, 1, 0, 0}, {1, 0, 0x81, 0, 0, 1, 0, 0}, {1, 0, 1, 0x80, 0, 1, 0, 0}, {1, 0, 1, 0, 0x81, 0, 0, 0}, {1, 0, 1, 0, 1, 0x80, 0, 0}, {1, 0, 1, 0, 1, 0, 0x80, 0},
		// no number at all
		{0x80}, {2, 0x80}, {3, 1, 0x80}, {0xff, 0xff, 0xff, 0xff, 0xff, 0x7f, 0}, {2, 0x80, 0x80, 0x80, 0x80, 8},
		// a tick at a port
		{2, 1}, {2, 3}, {2, 4}, {2, 0x80, 2},
		// a link at no port, or that is neither up nor down
		{3, 4, 0}, {3, 4, 1}, {3, 0x80, 2, 1}, {3, 1, 2}, {3, 1, 3}, {3, 1, 127}, {3, 1, 0x80, 1}, {3, 1, 0x81, 2}, {3, 1, 0xff, 0xff, 0xff, 0xff, 7},
		// a claim at no port, by too many, or of what can't be claimed
		{1, 4, 1, 0, 1, 0, 0}, {1, 0x80, 2, 1, 0, 1, 0, 0}, {1, 0, 1, 0, 1, 0, 9}, {1, 0, 1, 0, 1, 0, 0x80, 2}, {1, 0, 1, 0, 1, 4, 0}, {1, 0, 10, 0, 10, 0, 0}, {1, 0, 1, 21, 2, 0, 0}, {1, 0, 1, 0, 2, 0, 0}, {1, 0, 1, 1, 1, 0, 0}, {1, 0, 2, 1, 1, 0, 0}, {1, 0, 0, 0, 0, 0, 0},
		// more than its Kind names
		{2, 0, 0}, {2, 0, 1}, {3, 1, 1, 0}, {1, 0, 1, 0, 1, 0, 0, 0}, {2, 0, 1, 0, 1, 0, 0},
	} {
		for _, whole := range [][]byte{b, withSum(b)} {
			wantNoIn(t, whole, 0)
			wantNoIn(t, append(slices.Clone(whole), 0, 0, 0, 0, 0, 0, 0, 0), 0)
			wantNoIn(t, append([]byte{2}, whole...), 1)
			wantAllOf(t, whole, nil, 0)
		}
	}
}

// As the book has it: of all short beginnings with a right sum behind them.
func TestInOfAsTheChapterSays(t *testing.T) {
	all := newBook()
	read := 0
	look := func(b []byte) {
		x, behind, ok := impl.InOf(b, 0)
		if want, next, is := all.inOf(b, 0); x != want || behind != next || ok != is {
			t.Fatalf("InOf(%x, 0): %+v %d %v, want %+v %d %v", b, x, behind, ok, want, next, is)
		}
		if ok {
			read++
		}
	}
	for kind := range 256 {
		for port := range 256 {
			look(withSum([]byte{byte(kind), byte(port)}))
			for _, n := range []byte{0, 1, 2, 3, 127, 128, 129, 255} {
				look(withSum([]byte{byte(kind), byte(port), n}))
			}
		}
	}
	// a tick, and each of 4 ports up and down
	if read != 1+4*2 {
		t.Errorf("%d were read, want %d", read, 1+4*2)
	}
	read = 0
	for root := range 12 {
		for cost := range 24 {
			for bridge := range 12 {
				for port := range 6 {
					for hops := range 11 {
						look(withSum([]byte{1, 3, byte(root), byte(cost), byte(bridge), byte(port), byte(hops)}))
					}
				}
			}
		}
	}
	if want := 9 * len(goodVecs()); read != want {
		t.Errorf("%d claims were read, want %d", read, want)
	}
}

func TestAllBytes(t *testing.T) {
	tick, up, claim := tickIn(), linkIn(2, true), claimIn(1, vecOf(2, 1, 3, 0), 4)
	const tickText, upText, claimText = "\x02\x00\x03\x00\x06\x00", "\x03\x02\x01\x07\x00\x11\x00", "\x01\x01\x02\x01\x03\x00\x04\x0d\x00\x2f\x00"
	bent := impl.In{Kind: impl.InTick, Port: 1}
	for _, c := range []struct {
		list []impl.In
		want string
	}{
		{nil, ""}, {[]impl.In{}, ""}, {[]impl.In{tick}, tickText}, {[]impl.In{up}, upText}, {[]impl.In{claim}, claimText},
		{[]impl.In{tick, tick}, tickText + tickText}, {[]impl.In{claim, tick, up}, claimText + tickText + upText}, {[]impl.In{up, claim, tick}, upText + claimText + tickText},
		// of what can't come in nothing is written, of those beside it all
		{[]impl.In{bent}, ""}, {[]impl.In{{}, bent, {Kind: 4}}, ""}, {[]impl.In{claim, bent, up}, claimText + upText}, {[]impl.In{bent, claim, {}, {}, up, linkIn(4, true)}, claimText + upText},
	} {
		if got := impl.AllBytes(c.list); string(got) != c.want {
			t.Errorf("AllBytes(%+v): %x, want %x", c.list, got, c.want)
		}
	}
}

func TestAllIsReadAsItWas(t *testing.T) {
	wantAllOf(t, nil, nil, 0)
	wantAllOf(t, []byte{}, nil, 0)
	wantAllOf(t, impl.AllBytes(nil), nil, 0)
	list := allIns()
	b := impl.AllBytes(list)
	if back, used := impl.AllOf(b); !slices.Equal(back, list) || used != len(b) {
		t.Errorf("all of %d: %d of %d bytes", len(back), used, len(b))
	}
	c := &chooser{9}
	for count := range 60 {
		var few []impl.In
		for range count {
			few = append(few, list[c.below(len(list))], c.nextIn())
		}
		b := impl.AllBytes(few)
		wantAllOf(t, b, few, len(b))
	}
	mixed := slices.Concat(bentIns(), goodIns(), bentIns(), goodIns())
	b = impl.AllBytes(mixed)
	wantAllOf(t, b, slices.Concat(goodIns(), goodIns()), len(b))
}

// What is torn at its end is left away, and nothing of what stands ahead of it.
func TestWhatIsTornIsLeftAway(t *testing.T) {
	list := []impl.In{claimIn(1, vecOf(2, 1, 3, 0), 4), tickIn(), linkIn(2, true), tickIn(), claimIn(0, vecOf(1, 0, 1, 0), 0), linkIn(0, false)}
	ends := []int{0, 11, 17, 24, 30, 41, 48}
	b := impl.AllBytes(list)
	for cut := range len(b) + 1 {
		whole := 0
		for whole < len(list) && ends[whole+1] <= cut {
			whole++
		}
		wantAllOf(t, slices.Clone(b[:cut]), list[:whole], ends[whole])
		wantAllOf(t, b[:cut], list[:whole], ends[whole])
		// and with bytes behind what is left that are none
		wantAllOf(t, append(slices.Clone(b[:cut]), 0xff, 0xff, 0xff, 0xff, 0xff, 0xff), list[:whole], ends[whole])
	}
}

// What is torn ends it: what stands behind it is not told, though it is whole.
func TestNothingIsReadBehindWhatIsTorn(t *testing.T) {
	list := []impl.In{linkIn(2, true), claimIn(1, vecOf(2, 1, 3, 0), 4), tickIn(), tickIn(), linkIn(3, false)}
	ends := []int{0, 7, 18, 24, 30, 37}
	b := impl.AllBytes(list)
	for i := range b {
		whole := 0
		for ends[whole+1] <= i {
			whole++
		}
		bent := slices.Clone(b)
		bent[i] ^= 0x40
		wantAllOf(t, bent, list[:whole], ends[whole])
		wantAllOf(t, slices.Insert(slices.Clone(b), ends[whole], 0), list[:whole], ends[whole])
	}
	// torn at its beginning
	for i := 1; i < 7; i++ {
		wantAllOf(t, b[i:], nil, 0)
	}
	wantAllOf(t, b[7:], list[1:], 30)
	wantAllOf(t, append([]byte{0}, b...), nil, 0)
}

// As the book has it, of bytes that are right, bent, cut and mixed.
func TestAllOfAsTheChapterSays(t *testing.T) {
	all := newBook()
	ins := goodIns()
	for seed := range 3000 {
		c := &chooser{uint64(seed)}
		var b []byte
		for range c.below(8) {
			b = append(b, impl.InBytes(ins[c.below(len(ins))])...)
		}
		switch c.below(4) {
		case 0:
			b = b[:c.below(len(b)+1)]
		case 1:
			b = b[c.below(len(b)+1):]
		case 2:
			b = slices.Insert(b, c.below(len(b)+1), byte(c.below(256)))
		}
		list, used := all.allOf(b)
		wantAllOf(t, b, list, used)
		for at := -1; at <= len(b)+1; at++ {
			x, behind, ok := impl.InOf(b, at)
			if want, next, is := all.inOf(b, at); x != want || behind != next || ok != is {
				t.Fatalf("InOf(%x, %d): %+v %d %v", b, at, x, behind, ok)
			}
		}
	}
}

func plainInText(x impl.In) string {
	words := map[bool]string{true: "up", false: "down"}
	switch x.Kind {
	case 1:
		return fmt.Sprintf("claim %d %d.%d.%d.%d %d", x.Port, x.Vec.Root, x.Vec.Cost, x.Vec.Bridge, x.Vec.Port, x.Hops)
	case 2:
		return "tick"
	case 3:
		return fmt.Sprintf("link %d %s", x.Port, words[x.Up])
	}
	return "none"
}

func plainOutText(x impl.Out) string {
	words := map[bool]string{true: "open", false: "shut"}
	switch x.Kind {
	case 1:
		return fmt.Sprintf("claim %d %d.%d.%d.%d %d", x.Port, x.Vec.Root, x.Vec.Cost, x.Vec.Bridge, x.Vec.Port, x.Hops)
	case 2:
		return fmt.Sprintf("gate %d %s", x.Port, words[x.On])
	}
	return "none"
}

func TestInText(t *testing.T) {
	for _, c := range []struct {
		x    impl.In
		want string
	}{
		{claimIn(1, vecOf(2, 1, 3, 0), 4), "claim 1 2.1.3.0 4"}, {claimIn(3, vecOf(8, 20, 9, 3), 8), "claim 3 8.20.9.3 8"}, {claimIn(0, vecOf(1, 0, 1, 0), 0), "claim 0 1.0.1.0 0"},
		{tickIn(), "tick"}, {linkIn(2, true), "link 2 up"}, {linkIn(2, false), "link 2 down"}, {linkIn(0, true), "link 0 up"}, {linkIn(0, false), "link 0 down"},
		// of what can't come in, too
		{claimIn(-1, vecOf(-2, -3, -4, -5), -6), "claim -1 -2.-3.-4.-5 -6"}, {claimIn(4, vecOf(10, 21, 10, 4), 9), "claim 4 10.21.10.4 9"}, {impl.In{Kind: impl.InClaim, Up: true}, "claim 0 0.0.0.0 0"},
		{linkIn(-1, true), "link -1 up"}, {linkIn(math.MinInt, false), "link -9223372036854775808 down"}, {linkIn(math.MaxInt, true), "link 9223372036854775807 up"}, {impl.In{Kind: impl.InLink, Port: 1, Vec: vecOf(1, 0, 1, 0), Hops: 3}, "link 1 down"},
		{impl.In{Kind: impl.InTick, Port: 3, Vec: vecOf(1, 0, 1, 0), Hops: 2, Up: true}, "tick"},
		// Kinds that are none
		{impl.In{}, "none"}, {impl.In{Kind: 4}, "none"}, {impl.In{Kind: -1, Port: 1, Up: true}, "none"}, {impl.In{Kind: -3}, "none"}, {impl.In{Kind: 257}, "none"}, {impl.In{Kind: 1<<32 + 2}, "none"}, {impl.In{Kind: math.MinInt}, "none"}, {impl.In{Kind: math.MaxInt, Port: 1}, "none"},
	} {
		if got := impl.InText(c.x); got != c.want {
			t.Errorf("InText(%+v): %q, want %q", c.x, got, c.want)
		}
	}
	for _, x := range slices.Concat(allIns(), bentIns()) {
		if got := impl.InText(x); got != plainInText(x) {
			t.Fatalf("InText(%+v): %q", x, got)
		}
	}
}

func TestOutText(t *testing.T) {
	for _, c := range []struct {
		x    impl.Out
		want string
	}{
		{claimOut(1, vecOf(2, 1, 3, 0), 4), "claim 1 2.1.3.0 4"}, {claimOut(0, vecOf(1, 0, 1, 0), 0), "claim 0 1.0.1.0 0"}, {claimOut(3, vecOf(8, 20, 9, 3), 8), "claim 3 8.20.9.3 8"},
		{gateOut(2, true), "gate 2 open"}, {gateOut(2, false), "gate 2 shut"}, {gateOut(0, true), "gate 0 open"}, {gateOut(0, false), "gate 0 shut"},
		// of what no bridge says, too
		{claimOut(-1, vecOf(-2, -3, -4, -5), -6), "claim -1 -2.-3.-4.-5 -6"}, {impl.Out{Kind: impl.OuClaim, On: true}, "claim 0 0.0.0.0 0"}, {gateOut(-1, true), "gate -1 open"}, {gateOut(-4, false), "gate -4 shut"},
		{gateOut(math.MinInt, false), "gate -9223372036854775808 shut"}, {gateOut(math.MaxInt, true), "gate 9223372036854775807 open"}, {impl.Out{Kind: impl.OuGate, Port: 1, Vec: vecOf(1, 0, 1, 0), Hops: 3}, "gate 1 shut"},
		// Kinds that are none; the third one is one of what comes in
		{impl.Out{}, "none"}, {impl.Out{Kind: 3}, "none"}, {impl.Out{Kind: 3, Port: 1, On: true}, "none"}, {impl.Out{Kind: -1}, "none"}, {impl.Out{Kind: -2, Port: 2, On: true}, "none"}, {impl.Out{Kind: 258}, "none"}, {impl.Out{Kind: 1<<32 + 1}, "none"}, {impl.Out{Kind: math.MinInt}, "none"}, {impl.Out{Kind: math.MaxInt}, "none"},
	} {
		if got := impl.OutText(c.x); got != c.want {
			t.Errorf("OutText(%+v): %q, want %q", c.x, got, c.want)
		}
	}
	// what is told of what comes in, told of what is said
	for _, x := range slices.Concat(allIns(), bentIns()) {
		out := impl.Out{Kind: x.Kind, Port: x.Port, Vec: x.Vec, Hops: x.Hops, On: x.Up}
		if got := impl.OutText(out); got != plainOutText(out) {
			t.Fatalf("OutText(%+v): %q", out, got)
		}
	}
}

// What is shown of all that can come in is one text each.
func TestInTextTellsEachApart(t *testing.T) {
	told := map[string]impl.In{}
	for _, x := range allIns() {
		told[impl.InText(x)] = x
	}
	if len(told) != len(allIns()) {
		t.Errorf("%d have %d texts", len(allIns()), len(told))
	}
}

// scrawl writes over all of a list, and behind it as far as there is room.
func scrawl[T any](list []T, with T) {
	room := list[:cap(list)]
	for i := range room {
		room[i] = with
	}
}

func TestInSharesNoMemory(t *testing.T) {
	x := claimIn(1, vecOf(2, 1, 3, 0), 4)
	list := []impl.In{x, tickIn(), {}, linkIn(2, true)}
	want := []impl.In{x, tickIn(), linkIn(2, true)}
	b := impl.AllBytes(list)
	kept := string(b)
	scrawl(impl.AllBytes(list), 77)
	scrawl(impl.InBytes(x), 77)
	for range 2 {
		back, _ := impl.AllOf(b)
		again, _ := impl.AllOf(b)
		scrawl(back, impl.In{Kind: 77})
		if string(b) != kept || !slices.Equal(again, want) {
			t.Fatalf("what was answered is now %x and %+v", b, again)
		}
	}
	if string(impl.AllBytes(list)) != kept || string(impl.InBytes(x)) != kept[:11] {
		t.Error("two answers share memory")
	}
	back, _ := impl.AllOf(b)
	scrawl(b, 77)
	scrawl(list, impl.In{Kind: 77})
	if !slices.Equal(back, want) {
		t.Errorf("what was read is now %+v", back)
	}
	// of one that is torn, too
	b = []byte(kept)
	back, _ = impl.AllOf(b[:len(b)-1])
	scrawl(back, impl.In{Kind: 77})
	if string(b) != kept {
		t.Errorf("what was read from is now %x", b)
	}
}

func TestInWritesIntoNoArgument(t *testing.T) {
	// the room behind what is handed in is to stay as it is, too
	list := slices.Concat([]impl.In{{}, tickIn()}, goodIns()[:40], bentIns()[:40])
	keptList := slices.Clone(list)
	for end := range list {
		impl.AllBytes(list[:end])
	}
	if !slices.Equal(list, keptList) {
		t.Errorf("written into: %+v, was %+v", list, keptList)
	}
	b := slices.Concat(impl.AllBytes([]impl.In{claimIn(1, vecOf(2, 1, 3, 0), 4), tickIn(), linkIn(2, true)}), []byte{2, 0, 9, 9, 9, 9, 0x80, 0, 1, 2, 3})
	kept := slices.Clone(b)
	for end := range len(b) + 1 {
		impl.AllOf(b[:end])
		for at := -2; at < len(b)+2; at++ {
			impl.InOf(b[:end], at)
		}
	}
	if !bytes.Equal(b, kept) {
		t.Errorf("written into: %x, was %x", b, kept)
	}
}

func FuzzIn(f *testing.F) {
	all := newBook()
	for _, x := range []impl.In{tickIn(), linkIn(2, true), claimIn(1, vecOf(2, 1, 3, 0), 4), {}} {
		f.Add(slices.Concat(impl.InBytes(x), impl.InBytes(tickIn())), 0, x.Kind, x.Port, x.Vec.Root, x.Vec.Cost, x.Vec.Bridge, x.Vec.Port, x.Hops, x.Up)
	}
	f.Fuzz(func(t *testing.T, b []byte, at int, kind int, port int, root int, cost int, bridge int, port2 int, hops int, up bool) {
		x := impl.In{Kind: kind, Port: port, Vec: vecOf(root, cost, bridge, port2), Hops: hops, Up: up}
		kept := slices.Clone(b)
		if got := impl.InBytes(x); !bytes.Equal(got, plainInBytes(x)) {
			t.Errorf("InBytes(%+v): %x", x, got)
		}
		out := impl.Out{Kind: kind, Port: port, Vec: x.Vec, Hops: hops, On: up}
		if impl.InText(x) != plainInText(x) || impl.OutText(out) != plainOutText(out) {
			t.Errorf("%+v: %q %q", x, impl.InText(x), impl.OutText(out))
		}
		// and with a right sum behind it, which any bytes hardly ever have
		for _, look := range [][]byte{b, withSum(b)} {
			for _, place := range []int{at, 0, at & 15} {
				y, behind, ok := impl.InOf(look, place)
				if want, next, is := all.inOf(look, place); y != want || behind != next || ok != is {
					t.Errorf("InOf(%x, %d): %+v %d %v", look, place, y, behind, ok)
				}
			}
			list, used := all.allOf(look)
			wantAllOf(t, look, list, used)
		}
		if !bytes.Equal(b, kept) {
			t.Errorf("written into: %x, was %x", b, kept)
		}
	})
}
