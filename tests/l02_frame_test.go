package tests

import (
	"bytes"
	"hash/adler32"
	"math"
	"slices"
	"testing"

	"loop.example/g00470/impl"
)

// loadOf makes a load of n bytes that are not alike.
func loadOf(n int) []byte {
	var b []byte
	for i := range n {
		b = append(b, byte(i*37+200))
	}
	return b
}

// withSum lays the sum of b behind it, as a frame has it.
func withSum(b []byte) []byte {
	s := adler32.Checksum(b)
	return append(slices.Clone(b), byte(s), byte(s>>8), byte(s>>16), byte(s>>24))
}

func goodFrames() []impl.Frame {
	var list []impl.Frame
	for to := range impl.MaxAddr + 1 {
		for from := 1; from <= impl.MaxAddr; from++ {
			for vlan := range impl.MaxVlan + 1 {
				list = append(list, impl.Frame{To: to, From: from, Vlan: vlan, Load: loadOf((to*7 + from*3 + vlan) % (impl.MaxLoad + 1))})
			}
		}
	}
	for n := range impl.MaxLoad + 1 {
		list = append(list,
			impl.Frame{To: 2, From: 1, Vlan: 3, Load: loadOf(n)},
			impl.Frame{To: 0, From: 9, Vlan: 0, Load: make([]byte, n)},
			impl.Frame{To: 9, From: 1, Vlan: 4, Load: bytes.Repeat([]byte{255}, n)})
	}
	return list
}

func badFrames() []impl.Frame {
	return []impl.Frame{
		{}, {To: 1}, {To: 1, Vlan: 1},
		{To: 1, From: 0, Vlan: 1}, {To: 1, From: -1, Vlan: 1}, {To: 1, From: 10, Vlan: 1},
		{To: -1, From: 1, Vlan: 1}, {To: 10, From: 1, Vlan: 1},
		{To: 1, From: 1, Vlan: -1}, {To: 1, From: 1, Vlan: 5},
		{To: 1, From: 1, Vlan: 1, Load: loadOf(31)}, {To: 1, From: 1, Vlan: 1, Load: loadOf(1000)},
		// such as are within their limits again as a byte
		{To: 256, From: 1, Vlan: 1}, {To: 1, From: 257, Vlan: 1}, {To: 1, From: 1, Vlan: 256},
		{To: -255, From: 1, Vlan: 1}, {To: 1, From: -255, Vlan: 1}, {To: 1, From: 1, Vlan: -255},
		{To: math.MaxInt, From: 1, Vlan: 1}, {To: 1, From: math.MinInt, Vlan: 1}, {To: 1, From: 1, Vlan: math.MinInt},
	}
}

func isZeroFrame(f impl.Frame) bool {
	return f.To == 0 && f.From == 0 && f.Vlan == 0 && len(f.Load) == 0
}

func wantNoFrame(t *testing.T, b []byte) {
	t.Helper()
	if f, ok := impl.FrameOf(b); ok || !isZeroFrame(f) {
		t.Errorf("FrameOf(%x): %v %v, want none", b, f, ok)
	}
}

func TestFrameLimits(t *testing.T) {
	if impl.MaxAddr != 9 || impl.MaxVlan != 4 || impl.MaxLoad != 30 {
		t.Error("limits", impl.MaxAddr, impl.MaxVlan, impl.MaxLoad)
	}
}

func TestFrameOk(t *testing.T) {
	for _, f := range goodFrames() {
		if !impl.FrameOk(f) {
			t.Errorf("FrameOk(%v): false", f)
		}
	}
	for _, f := range badFrames() {
		if impl.FrameOk(f) {
			t.Errorf("FrameOk(%v): true", f)
		}
	}
	// an address of its own, and nothing said of all else
	if !impl.FrameOk(impl.Frame{From: 1}) || !impl.FrameOk(impl.Frame{To: 3, From: 3}) {
		t.Error("a frame to all, or to who sent it, is refused")
	}
}

func TestFrameBytes(t *testing.T) {
	for _, c := range []struct {
		f    impl.Frame
		want string
	}{
		{impl.Frame{From: 1}, "\x00\x01\x00\x00\x02\x00\x07\x00"},
		{impl.Frame{To: 2, From: 1, Vlan: 3, Load: []byte("hi")}, "\x02\x01\x03\x02hi\xda\x00\x62\x01"},
		{impl.Frame{To: 9, From: 9, Vlan: 4, Load: []byte{0}}, "\x09\x09\x04\x01\x00\x18\x00\x64\x00"},
	} {
		if got := impl.FrameBytes(c.f); string(got) != c.want {
			t.Errorf("FrameBytes(%v): %x, want %x", c.f, got, c.want)
		}
	}
	for _, f := range goodFrames() {
		want := withSum(append([]byte{byte(f.To), byte(f.From), byte(f.Vlan), byte(len(f.Load))}, f.Load...))
		if got := impl.FrameBytes(f); !bytes.Equal(got, want) {
			t.Errorf("FrameBytes(%v): %x, want %x", f, got, want)
		}
	}
	for _, f := range badFrames() {
		if got := impl.FrameBytes(f); len(got) != 0 {
			t.Errorf("FrameBytes(%v): %x, want nothing", f, got)
		}
	}
}

func TestFrameIsReadAsItWas(t *testing.T) {
	for _, f := range goodFrames() {
		g, ok := impl.FrameOf(impl.FrameBytes(f))
		if !ok || g.To != f.To || g.From != f.From || g.Vlan != f.Vlan || !bytes.Equal(g.Load, f.Load) {
			t.Errorf("%v was read as %v %v", f, g, ok)
		}
	}
}

func TestFrameThatIsCutIsNone(t *testing.T) {
	wantNoFrame(t, nil)
	wantNoFrame(t, []byte{})
	for _, f := range goodFrames() {
		b := impl.FrameBytes(f)
		for i := range b {
			wantNoFrame(t, slices.Clone(b[:i]))
			wantNoFrame(t, b[:i])
			wantNoFrame(t, slices.Clone(b[i+1:]))
			wantNoFrame(t, slices.Delete(slices.Clone(b), i, i+1))
		}
	}
}

// A load that is cut, with a sum that is right of what is left: the count tells of it.
func TestLoadThatIsCutIsNone(t *testing.T) {
	for n := range impl.MaxLoad + 1 {
		load := loadOf(n)
		for cut := range load {
			wantNoFrame(t, withSum(append([]byte{2, 1, 3, byte(n)}, load[:cut]...)))
			wantNoFrame(t, append([]byte{2, 1, 3, byte(n)}, load[:cut]...))
		}
		wantNoFrame(t, withSum(append(append([]byte{2, 1, 3, byte(n)}, load...), 0)))
	}
}

func TestFrameWithMoreIsNone(t *testing.T) {
	for _, f := range goodFrames() {
		b := impl.FrameBytes(f)
		wantNoFrame(t, append(slices.Clone(b), 0))
		wantNoFrame(t, append(slices.Clone(b), 255))
		wantNoFrame(t, append([]byte{0}, b...))
		wantNoFrame(t, append(slices.Clone(b), b...))
		wantNoFrame(t, withSum(b))
	}
}

// Of one byte that is another one each sum is another one: such a frame is none.
func TestFrameThatIsBentIsNone(t *testing.T) {
	for _, f := range goodFrames() {
		b := impl.FrameBytes(f)
		for i := range b {
			for _, by := range []byte{1, 2, 4, 8, 16, 32, 64, 128, 255} {
				bent := slices.Clone(b)
				bent[i] ^= by
				wantNoFrame(t, bent)
			}
		}
	}
	good := impl.FrameBytes(impl.Frame{To: 2, From: 1, Vlan: 3, Load: []byte("hi")})
	at := len(good) - 4
	wantNoFrame(t, append(slices.Clone(good[:at]), good[at+3], good[at+2], good[at+1], good[at]))
	wantNoFrame(t, append(slices.Clone(good[:at]), 0, 0, 0, 0))
}

func TestFrameOfOtherBytes(t *testing.T) {
	for _, b := range [][]byte{
		// addresses and nets beyond their limits
		{1, 0, 1, 0}, {10, 1, 1, 0}, {1, 10, 1, 0}, {1, 1, 5, 0}, {255, 1, 1, 0}, {1, 255, 1, 0}, {1, 1, 255, 0}, {0, 0, 0, 0},
		// a count that is not the shortest
		{2, 1, 3, 0x80, 0}, {2, 1, 3, 0x82, 0, 'h', 'i'}, {2, 1, 3, 0x82, 0x80, 0, 'h', 'i'},
		// a count that says more than there is, or less
		{2, 1, 3, 3, 'h', 'i'}, {2, 1, 3, 6, 'h', 'i'}, {2, 1, 3, 7, 'h', 'i'}, {2, 1, 3, 1, 'h', 'i'}, {2, 1, 3, 0, 'h', 'i'},
		{2, 1, 3, 0x80, 1, 'h', 'i'}, {2, 1, 3, 0xff, 0xff, 0xff, 0xff, 7, 'h', 'i'}, {2, 1, 3, 0xff, 0xff, 0xff, 0xff, 0xff, 0xff, 0xff, 0xff, 0x7f},
		// no count
		{2, 1, 3}, {2, 1}, {2}, {}, {2, 1, 3, 0x80}, {2, 1, 3, 0xff, 0xff},
	} {
		wantNoFrame(t, b)
		wantNoFrame(t, withSum(b))
	}
	// a load of 31, and one of as many as take a count of two bytes
	wantNoFrame(t, withSum(append([]byte{2, 1, 3, 31}, loadOf(31)...)))
	wantNoFrame(t, withSum(append([]byte{2, 1, 3, 0x80, 1}, loadOf(128)...)))
	if _, ok := impl.FrameOf(withSum(append([]byte{2, 1, 3, 30}, loadOf(30)...))); !ok {
		t.Error("a load of 30 is refused")
	}
}

func TestFrameSame(t *testing.T) {
	f := impl.Frame{To: 2, From: 1, Vlan: 3, Load: []byte("hi")}
	for _, g := range []impl.Frame{
		{To: 1, From: 1, Vlan: 3, Load: []byte("hi")}, {To: 2, From: 2, Vlan: 3, Load: []byte("hi")}, {To: 2, From: 1, Vlan: 0, Load: []byte("hi")},
		{To: 2, From: 1, Vlan: 3}, {To: 2, From: 1, Vlan: 3, Load: []byte("h")}, {To: 2, From: 1, Vlan: 3, Load: []byte("hi ")},
		{To: 2, From: 1, Vlan: 3, Load: []byte("ho")}, {To: 2, From: 1, Vlan: 3, Load: []byte("ih")}, {To: 1, From: 2, Vlan: 3, Load: []byte("hi")}, {},
	} {
		if impl.FrameSame(f, g) || impl.FrameSame(g, f) {
			t.Errorf("FrameSame(%v, %v): true", f, g)
		}
	}
	for _, g := range append(goodFrames(), badFrames()...) {
		h := g
		h.Load = slices.Clone(g.Load)
		if !impl.FrameSame(g, g) || !impl.FrameSame(g, h) {
			t.Errorf("FrameSame(%v, %v): false", g, h)
		}
	}
	if !impl.FrameSame(impl.Frame{From: 1}, impl.Frame{From: 1, Load: []byte{}}) || !impl.FrameSame(impl.Frame{Load: []byte{}}, impl.Frame{}) {
		t.Error("an empty load is not the same as none")
	}
}

func TestFrameSharesNoMemory(t *testing.T) {
	load := []byte("hi")
	b := impl.FrameBytes(impl.Frame{To: 2, From: 1, Vlan: 3, Load: load})
	f, _ := impl.FrameOf(b)
	g, _ := impl.FrameOf(b)
	want := string(b)
	load[0] = 'x'
	f.Load[1] = 'y'
	f.Load = append(f.Load, "more"...)
	if string(b) != want || string(g.Load) != "hi" {
		t.Errorf("what was answered is now %x and %q", b, g.Load)
	}
	b[4] = 'z'
	if string(g.Load) != "hi" || string(load) != "xi" {
		t.Errorf("loads are now %q and %q", g.Load, load)
	}
}

func TestFrameWritesIntoNoArgument(t *testing.T) {
	// the room behind what is handed in is to stay as it is, too
	load := append(loadOf(31), loadOf(20)...)
	kept := slices.Clone(load)
	for end := range load {
		f := impl.Frame{To: 2, From: 1, Vlan: 3, Load: load[:end]}
		impl.FrameOk(f)
		impl.FrameSame(f, f)
		impl.FrameBytes(f)
		impl.FrameOf(load[:end])
	}
	if !bytes.Equal(load, kept) {
		t.Errorf("written into: %x, was %x", load, kept)
	}
	b := append(impl.FrameBytes(impl.Frame{To: 2, From: 1, Vlan: 3, Load: loadOf(30)}), 1, 2, 3, 4, 5, 6, 7, 8)
	was := slices.Clone(b)
	for end := range b {
		f, ok := impl.FrameOf(b[:end])
		if ok {
			f.Load = append(f.Load, 99, 99, 99)
		}
	}
	if !bytes.Equal(b, was) {
		t.Errorf("written into: %x, was %x", b, was)
	}
}

func FuzzFrame(f *testing.F) {
	f.Add([]byte("\x02\x01\x03\x02hi\xda\x00\x62\x01"), 2, 1, 3)
	f.Add([]byte{}, 0, 0, 0)
	f.Fuzz(func(t *testing.T, b []byte, to int, from int, vlan int) {
		if g, ok := impl.FrameOf(b); ok && (!impl.FrameOk(g) || !bytes.Equal(impl.FrameBytes(g), b)) || !ok && !isZeroFrame(g) {
			t.Errorf("FrameOf(%x): %v %v", b, g, ok)
		}
		g := impl.Frame{To: to, From: from, Vlan: vlan, Load: b}
		h, ok := impl.FrameOf(impl.FrameBytes(g))
		if ok != impl.FrameOk(g) || ok && !impl.FrameSame(g, h) {
			t.Errorf("%v was read as %v %v", g, h, ok)
		}
	})
}
