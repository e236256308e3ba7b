package tests

import (
	"bytes"
	"hash/adler32"
	"math"
	"slices"
	"strings"
	"testing"

	"loop.example/g00470/impl"
)

func TestDigits(t *testing.T) {
	for _, c := range []struct {
		n    int
		want string
	}{
		{0, "0"}, {7, "7"}, {10, "10"}, {-1, "-1"}, {-120, "-120"}, {999999, "999999"}, {1000000, "1000000"},
		{math.MaxInt, "9223372036854775807"}, {math.MinInt, "-9223372036854775808"},
	} {
		if got := impl.Digits(c.n); got != c.want {
			t.Errorf("Digits(%d): %q, want %q", c.n, got, c.want)
		}
	}
}

func TestNumberReadsDigits(t *testing.T) {
	for n := range 1000000 {
		if got, ok := impl.Number(impl.Digits(n)); got != n || !ok {
			t.Fatalf("Number(%q): %d %v", impl.Digits(n), got, ok)
		}
	}
}

func TestNumberOfOtherTexts(t *testing.T) {
	for _, s := range []string{
		"", "-", "+", "-0", "-1", "-999999", "+1", "00", "01", "000000", "0000001", "1000000", "9999999",
		"2147483647", "9223372036854775807", "9223372036854775808", "18446744073709551617", "-9223372036854775808",
		" 1", "1 ", "1\n", "\x001", "1\x00", "1.0", "1e3", "0x1", "1_0", "a", "1a", "a1", "/", ":", "\xff", "１", "٣",
		strings.Repeat("1", 1000), strings.Repeat("0", 1000),
	} {
		if n, ok := impl.Number(s); n != 0 || ok {
			t.Errorf("Number(%q): %d %v, want 0 false", s, n, ok)
		}
	}
}

func TestPutNum(t *testing.T) {
	for _, c := range []struct {
		n    int
		want string
	}{
		{0, "\x00"}, {1, "\x01"}, {127, "\x7f"}, {128, "\x80\x01"}, {129, "\x81\x01"}, {255, "\xff\x01"}, {256, "\x80\x02"}, {300, "\xac\x02"},
		{16383, "\xff\x7f"}, {16384, "\x80\x80\x01"}, {2097151, "\xff\xff\x7f"}, {2097152, "\x80\x80\x80\x01"},
		{268435455, "\xff\xff\xff\x7f"}, {268435456, "\x80\x80\x80\x80\x01"}, {2147483647, "\xff\xff\xff\xff\x07"},
		{2147483648, ""}, {4294967296, ""}, {math.MaxInt, ""}, {-1, ""}, {-128, ""}, {math.MinInt, ""},
	} {
		if got := impl.PutNum(c.n); string(got) != c.want {
			t.Errorf("PutNum(%d): %x, want %x", c.n, got, c.want)
		}
	}
}

func TestPutNumIsNewMemory(t *testing.T) {
	a, b := impl.PutNum(300), impl.PutNum(300)
	a[0], a[1] = 1, 1
	if string(b) != "\xac\x02" || string(impl.PutNum(300)) != "\xac\x02" {
		t.Error("two answers of PutNum share memory")
	}
}

func numbersToPut() []int {
	var list []int
	for n := range 70000 {
		list = append(list, n)
	}
	for p := 1; p <= 2147483648; p *= 2 {
		for n := max(p-3, 0); n <= min(p+3, 2147483647); n++ {
			list = append(list, n)
		}
	}
	for n := 1; n <= 2147483647; n += 99991 {
		list = append(list, n)
	}
	return list
}

func TestGetNumReadsPutNum(t *testing.T) {
	for _, n := range numbersToPut() {
		put := impl.PutNum(n)
		if got, behind, ok := impl.GetNum(put, 0); got != n || behind != len(put) || !ok {
			t.Fatalf("GetNum(%x, 0): %d %d %v, want %d", put, got, behind, ok, n)
		}
		between := append(append([]byte{200}, put...), 0, 255)
		if got, behind, ok := impl.GetNum(between, 1); got != n || behind != 1+len(put) || !ok {
			t.Fatalf("GetNum(%x, 1): %d %d %v, want %d", between, got, behind, ok, n)
		}
		for cut := range put {
			if got, behind, ok := impl.GetNum(put[:cut], 0); got != 0 || behind != 0 || ok {
				t.Fatalf("GetNum(%x, 0): %d %d %v, want none", put[:cut], got, behind, ok)
			}
		}
	}
}

func TestGetNumOneBehindTheOther(t *testing.T) {
	list := []int{0, 127, 128, 2147483647, 0, 300, 16384, 1}
	var b []byte
	for _, n := range list {
		b = append(b, impl.PutNum(n)...)
	}
	at := 0
	for _, n := range list {
		got, behind, ok := impl.GetNum(b, at)
		if got != n || !ok {
			t.Fatalf("at %d: %d %v, want %d", at, got, ok, n)
		}
		at = behind
	}
	if at != len(b) {
		t.Errorf("ends at %d of %d", at, len(b))
	}
}

func TestGetNumOfNone(t *testing.T) {
	for _, c := range []struct {
		b  string
		at int
	}{
		// a place outside
		{"", 0}, {"", -1}, {"", 1}, {"\x05", -1}, {"\x05", 1}, {"\x05", 2}, {"\x05", math.MaxInt}, {"\x05", math.MinInt}, {"\x05\x06", 2},
		// ended too soon
		{"\x80", 0}, {"\xff", 0}, {"\xff\xff\xff\xff", 0}, {"\x05\x80", 1}, {"\x80\x80\x80\x80\x80\x80", 0},
		// not the shortest
		{"\x80\x00", 0}, {"\x81\x00", 0}, {"\xff\x00", 0}, {"\x80\x80\x00", 0}, {"\xff\xff\x00", 0}, {"\x80\x81\x00", 0},
		{"\x80\x80\x80\x80\x00", 0}, {"\xff\xff\xff\xff\x00", 0}, {"\xff\xff\xff\xff\x87\x00", 0}, {"\x80\x80\x80\x80\x80\x00", 0},
		// too great
		{"\x80\x80\x80\x80\x08", 0}, {"\xff\xff\xff\xff\x0f", 0}, {"\xff\xff\xff\xff\x7f", 0}, {"\x80\x80\x80\x80\x10", 0},
		{"\x80\x80\x80\x80\x80\x01", 0}, {"\xff\xff\xff\xff\xff\x7f", 0},
		// whose bits lie beyond a word
		{"\x81\x80\x80\x80\x80\x80\x80\x80\x80\x80\x01", 0}, {"\x80\x80\x80\x80\x80\x80\x80\x80\x80\x02", 0}, {strings.Repeat("\xff", 100) + "\x01", 0},
	} {
		if n, behind, ok := impl.GetNum([]byte(c.b), c.at); n != 0 || behind != 0 || ok {
			t.Errorf("GetNum(%x, %d): %d %d %v, want 0 0 false", c.b, c.at, n, behind, ok)
		}
	}
	if n, behind, ok := impl.GetNum(nil, 0); n != 0 || behind != 0 || ok {
		t.Errorf("GetNum(nil, 0): %d %d %v, want 0 0 false", n, behind, ok)
	}
}

// What GetNum reads, PutNum writes: of all beginnings of two bytes, with some ends behind them.
func TestGetNumReadsTheShortestAlone(t *testing.T) {
	for i := range 65536 {
		for _, end := range []string{"", "\x00", "\x01", "\x80\x80\x07", "\x80\x80\x08", "\xff\xff\x00"} {
			b := append([]byte{byte(i), byte(i >> 8)}, end...)
			n, behind, ok := impl.GetNum(b, 0)
			if ok && !bytes.Equal(impl.PutNum(n), b[:behind]) {
				t.Fatalf("GetNum(%x, 0): %d %d, PutNum: %x", b, n, behind, impl.PutNum(n))
			}
			if !ok && (n != 0 || behind != 0) {
				t.Fatalf("GetNum(%x, 0): %d %d beside a false", b, n, behind)
			}
		}
	}
}

func TestSplit(t *testing.T) {
	for _, c := range []struct {
		s    string
		by   byte
		want []string
	}{
		{"", ',', []string{""}}, {"", 0, []string{""}}, {"a", ',', []string{"a"}}, {"a,b", ',', []string{"a", "b"}},
		{",", ',', []string{"", ""}}, {",,", ',', []string{"", "", ""}}, {"a,", ',', []string{"a", ""}}, {",a", ',', []string{"", "a"}},
		{"a,,b", ',', []string{"a", "", "b"}}, {"a b,c d", ' ', []string{"a", "b,c", "d"}}, {"x\ny\n", 10, []string{"x", "y", ""}},
		{"a\x00b", 0, []string{"a", "b"}}, {"a\xffb\xff", 255, []string{"a", "b", ""}}, {"a\xffb", 254, []string{"a\xffb"}},
		{"é", 0xc3, []string{"", "\xa9"}}, {"é", 0xa9, []string{"\xc3", ""}}, {"é", 0xe9, []string{"é"}}, {"a\x80b", 128, []string{"a", "b"}},
	} {
		if got := impl.Split(c.s, c.by); !slices.Equal(got, c.want) {
			t.Errorf("Split(%q, %d): %q, want %q", c.s, c.by, got, c.want)
		}
	}
}

func TestSplitIsJoinedAsItWas(t *testing.T) {
	var all []byte
	for i := range 512 {
		all = append(all, byte(i*7))
	}
	for by := range 256 {
		got := impl.Split(string(all), byte(by))
		if len(got) != 3 || strings.Join(got, string([]byte{byte(by)})) != string(all) {
			t.Errorf("Split by %d: %q", by, got)
		}
	}
}

func TestSumOf(t *testing.T) {
	full := bytes.Repeat([]byte{255}, 256)
	for _, c := range []struct {
		b    []byte
		want int
	}{
		{nil, 1}, {[]byte{}, 1}, {[]byte{0}, 65536 + 1}, {[]byte{1}, 2*65536 + 2}, {[]byte{1, 2}, 6*65536 + 4}, {[]byte{2, 1}, 7*65536 + 4},
		{[]byte("Wikipedia"), 0x11e60398},
		// the first sum meets 65521, and passes it by one
		{append(slices.Clone(full), 240), int(adler32.Checksum(append(slices.Clone(full), 240)))},
		{append(slices.Clone(full), 241), int(adler32.Checksum(append(slices.Clone(full), 241)))},
	} {
		if got := impl.SumOf(c.b); got != c.want {
			t.Errorf("SumOf(%x): %d, want %d", c.b, got, c.want)
		}
	}
	if got := impl.SumOf(append(full, 240)); got%65536 != 0 {
		t.Errorf("a first sum of 65521 leaves %d", got%65536)
	}
}

func TestSumOfManyBytes(t *testing.T) {
	var b []byte
	for i := range 3000 {
		if got, want := impl.SumOf(b), int(adler32.Checksum(b)); got != want {
			t.Fatalf("SumOf of %d bytes: %d, want %d", i, got, want)
		}
		b = append(b, byte(255-i%5))
	}
}

func TestNumWritesIntoNoArgument(t *testing.T) {
	whole := []byte{0xac, 2, 0x80, 0, 0xff, 9, 8, 7}
	kept := slices.Clone(whole)
	for end := range len(whole) + 1 {
		b := whole[:end]
		for at := -2; at < len(whole)+2; at++ {
			impl.GetNum(b, at)
		}
		impl.SumOf(b)
	}
	if !bytes.Equal(whole, kept) {
		t.Errorf("written into: %x, was %x", whole, kept)
	}
}

func TestGetNumLooksAtNoSpareRoom(t *testing.T) {
	if n, behind, ok := impl.GetNum([]byte{0xac, 2}[:1], 0); n != 0 || behind != 0 || ok {
		t.Errorf("read behind the end: %d %d %v", n, behind, ok)
	}
}

func FuzzNum(f *testing.F) {
	f.Add([]byte{0xac, 2}, 0, "120", byte(','))
	f.Add([]byte{0x80, 0}, 1, "", byte(0))
	f.Fuzz(func(t *testing.T, b []byte, at int, s string, by byte) {
		if n, behind, ok := impl.GetNum(b, at); ok && !bytes.Equal(impl.PutNum(n), b[at:behind]) || !ok && (n != 0 || behind != 0) {
			t.Errorf("GetNum(%x, %d): %d %d %v", b, at, n, behind, ok)
		}
		if n, ok := impl.Number(s); ok && (impl.Digits(n) != s || n < 0 || n > 999999) || !ok && n != 0 {
			t.Errorf("Number(%q): %d %v", s, n, ok)
		}
		if got := impl.Split(s, by); len(got) != strings.Count(s, string([]byte{by}))+1 || strings.Join(got, string([]byte{by})) != s {
			t.Errorf("Split(%q, %d): %q", s, by, got)
		}
		if got := impl.SumOf(b); got != int(adler32.Checksum(b)) {
			t.Errorf("SumOf(%x): %d", b, got)
		}
	})
}
