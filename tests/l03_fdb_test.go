package tests

import (
	"math"
	"slices"
	"testing"

	"loop.example/g00470/impl"
)

// rows are an Addr, a Vlan, a Port and a Left each.
type rows [][4]int

func (r rows) heard() []impl.Heard {
	var list []impl.Heard
	for _, n := range r {
		list = append(list, impl.Heard{Addr: n[0], Vlan: n[1], Port: n[2], Left: n[3]})
	}
	return list
}

// tableOf makes a table of the first n of all Vlans and addresses, in order.
func tableOf(n int) []impl.Heard {
	var list []impl.Heard
	for i := range n {
		list = append(list, impl.Heard{Addr: i%9 + 1, Vlan: i/9 + 1, Port: i % 4, Left: i%20 + 1})
	}
	return list
}

// sparseTable is full, and has free places ahead, between and behind.
func sparseTable() []impl.Heard {
	var list []impl.Heard
	for vlan := 1; vlan <= 4; vlan++ {
		for addr := 2; addr <= 6; addr += 2 {
			list = append(list, impl.Heard{Addr: addr, Vlan: vlan, Port: (addr + vlan) % 4, Left: addr + vlan})
		}
	}
	return list
}

func goodTables() [][]impl.Heard {
	list := [][]impl.Heard{nil, {}, sparseTable(), sparseTable()[1:], sparseTable()[:11],
		rows{{1, 1, 0, 1}}.heard(), rows{{9, 1, 0, 1}}.heard(), rows{{1, 4, 0, 1}}.heard(), rows{{1, 1, 3, 1}}.heard(), rows{{1, 1, 0, 20}}.heard(), rows{{9, 4, 3, 20}}.heard(),
		// by Vlan first, then by Addr
		rows{{9, 1, 0, 5}, {1, 2, 0, 5}}.heard(), rows{{5, 1, 0, 5}, {5, 2, 0, 5}, {5, 3, 0, 5}, {5, 4, 0, 5}}.heard(),
		rows{{3, 1, 3, 20}, {4, 1, 0, 1}}.heard()}
	for n := range impl.MaxHeard + 1 {
		list = append(list, tableOf(n))
	}
	return list
}

// bentTables are no tables, each for one reason or several.
func bentTables() [][]impl.Heard {
	return [][]impl.Heard{
		tableOf(13), tableOf(36),
		rows{{0, 1, 0, 1}}.heard(), rows{{10, 1, 0, 1}}.heard(), rows{{-1, 1, 0, 1}}.heard(), rows{{math.MaxInt, 1, 0, 1}}.heard(), rows{{math.MinInt, 1, 0, 1}}.heard(),
		rows{{1, 0, 0, 1}}.heard(), rows{{1, 5, 0, 1}}.heard(), rows{{1, -1, 0, 1}}.heard(), rows{{1, math.MaxInt, 0, 1}}.heard(), rows{{1, math.MinInt, 0, 1}}.heard(),
		rows{{1, 1, -1, 1}}.heard(), rows{{1, 1, 4, 1}}.heard(), rows{{1, 1, math.MaxInt, 1}}.heard(), rows{{1, 1, math.MinInt, 1}}.heard(),
		rows{{1, 1, 0, 0}}.heard(), rows{{1, 1, 0, 21}}.heard(), rows{{1, 1, 0, -1}}.heard(), rows{{1, 1, 0, math.MaxInt}}.heard(), rows{{1, 1, 0, math.MinInt}}.heard(),
		{{}}, {{}, {}},
		// out of order
		rows{{5, 1, 0, 5}, {3, 1, 1, 5}}.heard(), rows{{1, 2, 0, 5}, {9, 1, 1, 5}}.heard(), rows{{2, 2, 0, 5}, {2, 1, 1, 5}}.heard(),
		rows{{1, 1, 0, 5}, {3, 1, 1, 5}, {2, 1, 2, 5}}.heard(), rows{{1, 1, 0, 5}, {1, 3, 1, 5}, {1, 2, 2, 5}}.heard(),
		// one twice
		rows{{5, 1, 0, 5}, {5, 1, 0, 5}}.heard(), rows{{5, 1, 0, 5}, {5, 1, 1, 5}}.heard(), rows{{5, 1, 0, 5}, {5, 1, 0, 6}}.heard(),
		rows{{4, 1, 0, 5}, {5, 1, 2, 5}, {5, 1, 3, 5}, {6, 1, 0, 5}}.heard(), rows{{5, 1, 2, 5}, {4, 1, 0, 5}, {5, 1, 3, 5}}.heard(),
		append(sparseTable(), impl.Heard{Addr: 6, Vlan: 4, Port: 1, Left: 3}),
		// the first one is right, another one is not
		rows{{1, 1, 0, 5}, {2, 1, 4, 5}}.heard(), rows{{1, 1, 0, 5}, {2, 1, 0, 21}}.heard(), rows{{1, 1, 0, 5}, {10, 1, 0, 5}}.heard(), rows{{1, 1, 0, 5}, {1, 5, 0, 5}}.heard(),
		rows{{1, 1, 4, 5}, {2, 1, 0, 5}}.heard(), rows{{1, 1, 0, 0}, {2, 1, 0, 5}}.heard(), rows{{0, 1, 0, 5}, {2, 1, 0, 5}}.heard(), rows{{1, 0, 0, 5}, {2, 1, 0, 5}}.heard(),
	}
}

// plainTableOk, and plainHear, say again what the chapter says, by slices alone.
func plainTableOk(list []impl.Heard) bool {
	for i, h := range list {
		if h.Addr < 1 || h.Addr > 9 || h.Vlan < 1 || h.Vlan > 4 || h.Port < 0 || h.Port > 3 || h.Left < 1 || h.Left > 20 {
			return false
		}
		if i > 0 && list[i-1].Vlan*100+list[i-1].Addr >= h.Vlan*100+h.Addr {
			return false
		}
	}
	return len(list) <= 12
}

func plainHear(list []impl.Heard, addr int, vlan int, port int) []impl.Heard {
	now := impl.Heard{Addr: addr, Vlan: vlan, Port: port, Left: 20}
	next := slices.Clone(list)
	at := slices.IndexFunc(next, func(h impl.Heard) bool { return h.Addr == addr && h.Vlan == vlan })
	if at >= 0 {
		next[at] = now
	} else {
		at = 0
		for at < len(next) && (next[at].Vlan < vlan || next[at].Vlan == vlan && next[at].Addr < addr) {
			at++
		}
		next = slices.Insert(next, at, now)
	}
	if !plainTableOk(next) {
		return list
	}
	return next
}

func wantTable(t *testing.T, what string, got []impl.Heard, want []impl.Heard) {
	t.Helper()
	if !slices.Equal(got, want) {
		t.Errorf("%s: %v, want %v", what, got, want)
	}
}

func TestTableLimits(t *testing.T) {
	if impl.MaxPorts != 4 || impl.MaxHeard != 12 || impl.MaxAge != 20 {
		t.Error("limits", impl.MaxPorts, impl.MaxHeard, impl.MaxAge)
	}
}

func TestTableOk(t *testing.T) {
	for _, list := range goodTables() {
		if !impl.TableOk(list) {
			t.Errorf("TableOk(%v): false", list)
		}
	}
	for _, list := range bentTables() {
		if impl.TableOk(list) {
			t.Errorf("TableOk(%v): true", list)
		}
	}
}

func TestHear(t *testing.T) {
	two := rows{{3, 1, 0, 7}, {5, 2, 2, 8}}.heard()
	for _, c := range []struct {
		list             []impl.Heard
		addr, vlan, port int
		want             []impl.Heard
	}{
		{nil, 1, 1, 0, rows{{1, 1, 0, 20}}.heard()},
		{nil, 9, 4, 3, rows{{9, 4, 3, 20}}.heard()},
		{[]impl.Heard{}, 5, 1, 2, rows{{5, 1, 2, 20}}.heard()},
		// in its own place: ahead, between and behind
		{two, 2, 1, 1, rows{{2, 1, 1, 20}, {3, 1, 0, 7}, {5, 2, 2, 8}}.heard()},
		{two, 9, 1, 1, rows{{3, 1, 0, 7}, {9, 1, 1, 20}, {5, 2, 2, 8}}.heard()},
		{two, 1, 2, 1, rows{{3, 1, 0, 7}, {1, 2, 1, 20}, {5, 2, 2, 8}}.heard()},
		{two, 6, 2, 1, rows{{3, 1, 0, 7}, {5, 2, 2, 8}, {6, 2, 1, 20}}.heard()},
		{two, 1, 3, 1, rows{{3, 1, 0, 7}, {5, 2, 2, 8}, {1, 3, 1, 20}}.heard()},
		// there already: at the same port, at another one, in another Vlan
		{two, 3, 1, 0, rows{{3, 1, 0, 20}, {5, 2, 2, 8}}.heard()},
		{two, 3, 1, 3, rows{{3, 1, 3, 20}, {5, 2, 2, 8}}.heard()},
		{two, 5, 2, 1, rows{{3, 1, 0, 7}, {5, 2, 1, 20}}.heard()},
		{two, 3, 2, 3, rows{{3, 1, 0, 7}, {3, 2, 3, 20}, {5, 2, 2, 8}}.heard()},
		{two, 5, 1, 3, rows{{3, 1, 0, 7}, {5, 1, 3, 20}, {5, 2, 2, 8}}.heard()},
		// beyond the limits
		{two, 0, 1, 1, two}, {two, 10, 1, 1, two}, {two, -1, 1, 1, two}, {two, 3, 0, 1, two}, {two, 3, 5, 1, two}, {two, 3, -1, 1, two},
		{two, 3, 1, -1, two}, {two, 3, 1, 4, two}, {two, 4, 1, -1, two}, {two, 4, 1, 4, two},
		{two, math.MaxInt, 1, 1, two}, {two, 3, math.MinInt, 1, two}, {two, 3, 1, math.MaxInt, two},
		{nil, 0, 0, 0, nil}, {nil, 0, 1, 0, nil}, {nil, 1, 0, 0, nil}, {nil, 1, 1, 4, nil}, {nil, 1, 1, -1, nil},
	} {
		if got := impl.Hear(c.list, c.addr, c.vlan, c.port); !slices.Equal(got, c.want) {
			t.Errorf("Hear(%v, %d, %d, %d): %v, want %v", c.list, c.addr, c.vlan, c.port, got, c.want)
		}
	}
}

func TestHearInFullTable(t *testing.T) {
	full := sparseTable()
	if len(full) != impl.MaxHeard {
		t.Fatal("not full", len(full))
	}
	for addr := -1; addr <= 10; addr++ {
		for vlan := -1; vlan <= 5; vlan++ {
			want := slices.Clone(full)
			for i, h := range full {
				if h.Addr == addr && h.Vlan == vlan {
					want[i] = impl.Heard{Addr: addr, Vlan: vlan, Port: 2, Left: 20}
				}
			}
			wantTable(t, "full", impl.Hear(full, addr, vlan, 2), want)
		}
	}
	// one less: the one that is new fills it
	for i := range full {
		gone := full[i]
		gone.Left = 20
		want := slices.Clone(full)
		want[i] = gone
		wantTable(t, "filled", impl.Hear(slices.Delete(slices.Clone(full), i, i+1), gone.Addr, gone.Vlan, gone.Port), want)
	}
}

// What would be a table is told, also where only the one that gives way was wrong; all else is as it was.
func TestHearOfNoTable(t *testing.T) {
	for _, c := range []struct {
		list []impl.Heard
		want []impl.Heard
	}{
		{rows{{5, 1, 9, 5}}.heard(), rows{{5, 1, 2, 20}}.heard()},
		{rows{{5, 1, -1, 5}, {6, 1, 0, 5}}.heard(), rows{{5, 1, 2, 20}, {6, 1, 0, 5}}.heard()},
		{rows{{4, 1, 0, 5}, {5, 1, 0, 0}}.heard(), rows{{4, 1, 0, 5}, {5, 1, 2, 20}}.heard()},
		{rows{{5, 1, 0, 21}}.heard(), rows{{5, 1, 2, 20}}.heard()},
	} {
		wantTable(t, "mended", impl.Hear(c.list, 5, 1, 2), c.want)
	}
	for _, list := range [][]impl.Heard{
		tableOf(13), tableOf(36),
		rows{{5, 1, 0, 5}, {5, 1, 0, 5}}.heard(), rows{{5, 1, 0, 5}, {5, 1, 1, 5}}.heard(), rows{{4, 1, 0, 5}, {4, 1, 0, 5}}.heard(), rows{{6, 1, 0, 5}, {6, 1, 1, 6}}.heard(),
		rows{{5, 1, 0, 5}, {3, 1, 1, 5}}.heard(), rows{{6, 1, 0, 5}, {5, 1, 1, 5}}.heard(), rows{{9, 2, 0, 5}, {5, 1, 1, 5}}.heard(), rows{{7, 1, 0, 5}, {6, 1, 1, 5}}.heard(), rows{{5, 1, 0, 5}, {4, 1, 0, 5}, {5, 1, 0, 5}}.heard(),
		rows{{4, 1, 9, 5}}.heard(), rows{{4, 1, 9, 5}, {5, 1, 0, 5}}.heard(), rows{{5, 1, 0, 5}, {6, 1, 0, 21}}.heard(), rows{{0, 1, 0, 5}, {5, 1, 0, 5}}.heard(), rows{{4, 1, 0, 0}}.heard(), rows{{4, 1, -1, 1}}.heard(),
	} {
		wantTable(t, "as it was", impl.Hear(list, 5, 1, 2), list)
	}
}

func TestHearAsTheChapterSays(t *testing.T) {
	for _, list := range append(goodTables(), bentTables()...) {
		for addr := -1; addr <= 10; addr++ {
			for vlan := -1; vlan <= 5; vlan++ {
				for port := -1; port <= 4; port++ {
					got := impl.Hear(list, addr, vlan, port)
					if want := plainHear(list, addr, vlan, port); !slices.Equal(got, want) {
						t.Fatalf("Hear(%v, %d, %d, %d): %v, want %v", list, addr, vlan, port, got, want)
					}
				}
			}
		}
	}
}

func TestWhatWasHeardLastIsWhereItIs(t *testing.T) {
	type whom struct{ addr, vlan int }
	last := map[whom]int{}
	var list []impl.Heard
	for i := range 2000 {
		w := whom{i*7%5 + 1, i*11%2 + 1}
		port := i * i % 7 % 4
		list = impl.Hear(list, w.addr, w.vlan, port)
		last[w] = port
		if !impl.TableOk(list) || len(list) != len(last) {
			t.Fatal("no table", list)
		}
		for w, port := range last {
			if got, ok := impl.Where(list, w.addr, w.vlan); !ok || got != port {
				t.Fatalf("%v is at %d %v, want %d: %v", w, got, ok, port, list)
			}
		}
	}
}

func TestWhere(t *testing.T) {
	list := sparseTable()
	for _, h := range list {
		if port, ok := impl.Where(list, h.Addr, h.Vlan); !ok || port != h.Port {
			t.Errorf("Where(%d, %d): %d %v, want %d", h.Addr, h.Vlan, port, ok, h.Port)
		}
	}
	for _, w := range [][2]int{{1, 1}, {3, 1}, {7, 4}, {2, 0}, {2, 5}, {0, 1}, {10, 1}, {0, 0}, {-1, -1}, {math.MaxInt, math.MinInt}} {
		if port, ok := impl.Where(list, w[0], w[1]); ok || port != 0 {
			t.Errorf("Where(%v): %d %v, want none", w, port, ok)
		}
	}
	if port, ok := impl.Where(nil, 1, 1); ok || port != 0 {
		t.Error("none is somewhere", port)
	}
	// the first one of several, in a list in any order
	twice := rows{{9, 3, 1, 1}, {5, 1, 3, 2}, {5, 2, 0, 3}, {5, 1, 2, 9}, {0, -1, 77, 0}}.heard()
	for _, c := range [][3]int{{5, 1, 3}, {5, 2, 0}, {9, 3, 1}, {0, -1, 77}} {
		if port, ok := impl.Where(twice, c[0], c[1]); !ok || port != c[2] {
			t.Errorf("Where(%d, %d): %d %v, want %d", c[0], c[1], port, ok, c[2])
		}
	}
}

func TestAge(t *testing.T) {
	for _, c := range []struct{ list, want []impl.Heard }{
		{nil, nil},
		{[]impl.Heard{}, nil},
		{rows{{1, 1, 0, 1}}.heard(), nil},
		{rows{{1, 1, 0, 2}}.heard(), rows{{1, 1, 0, 1}}.heard()},
		{rows{{1, 1, 0, 20}, {2, 1, 1, 1}, {3, 1, 2, 2}}.heard(), rows{{1, 1, 0, 19}, {3, 1, 2, 1}}.heard()},
		// no table: as they stand
		{rows{{9, 2, 0, 0}, {9, 2, 0, 21}, {3, 1, 2, -5}, {3, 1, 2, 3}, {3, 1, 2, 3}, {-1, 77, 9, 4}}.heard(), rows{{9, 2, 0, 20}, {3, 1, 2, 2}, {3, 1, 2, 2}, {-1, 77, 9, 3}}.heard()},
		{rows{{1, 1, 0, math.MaxInt}, {1, 1, 0, math.MinInt}}.heard(), rows{{1, 1, 0, math.MaxInt - 1}}.heard()},
	} {
		wantTable(t, "Age", impl.Age(c.list), c.want)
	}
	for _, list := range append(goodTables(), bentTables()...) {
		var want []impl.Heard
		for _, h := range list {
			if h.Left > 1 {
				want = append(want, impl.Heard{Addr: h.Addr, Vlan: h.Vlan, Port: h.Port, Left: h.Left - 1})
			}
		}
		wantTable(t, "Age", impl.Age(list), want)
	}
	if got := impl.Age(tableOf(36)); len(got) != 34 {
		t.Error("more than a table holds", got)
	}
}

// What is not heard again is known for MaxAge ticks, this one with it.
func TestAgeTickByTick(t *testing.T) {
	list := impl.Hear(nil, 5, 1, 2)
	for tick := range impl.MaxAge {
		if _, ok := impl.Where(list, 5, 1); !ok || list[0].Left != impl.MaxAge-tick || !impl.TableOk(list) {
			t.Fatal("after", tick, list)
		}
		list = impl.Age(list)
	}
	if len(list) != 0 {
		t.Error("still known", list)
	}
	list = impl.Hear(impl.Age(impl.Age(impl.Hear(nil, 5, 1, 2))), 5, 1, 2)
	wantTable(t, "heard again", list, rows{{5, 1, 2, 20}}.heard())
}

func TestForget(t *testing.T) {
	for _, list := range append(goodTables(), bentTables()...) {
		for _, port := range []int{-1, 0, 1, 2, 3, 4, math.MaxInt, math.MinInt} {
			var want []impl.Heard
			for _, h := range list {
				if h.Port != port {
					want = append(want, h)
				}
			}
			wantTable(t, "Forget", impl.Forget(list, port), want)
		}
	}
	wantTable(t, "Forget", impl.Forget(rows{{9, 2, 0, 5}, {3, 1, 7, 0}, {3, 1, 1, 4}, {3, 1, 1, 4}, {1, 1, 0, 2}}.heard(), 0), rows{{3, 1, 7, 0}, {3, 1, 1, 4}, {3, 1, 1, 4}}.heard())
}

func TestTableSharesNoMemory(t *testing.T) {
	for _, list := range append(goodTables(), bentTables()...) {
		kept := slices.Clone(list)
		for _, got := range [][]impl.Heard{impl.Hear(list, 1, 1, 1), impl.Hear(list, 7, 3, 1), impl.Hear(list, 0, 0, 0), impl.Age(list), impl.Forget(list, 0), impl.Forget(list, 9)} {
			for i := range got {
				got[i] = impl.Heard{Addr: 77, Vlan: 77, Port: 77, Left: 77}
			}
			got = append(got, impl.Heard{Addr: 88})
			wantTable(t, "was written into", list, kept)
		}
	}
}

func TestTableWritesIntoNoArgument(t *testing.T) {
	room := append(sparseTable(), tableOf(36)...)
	kept := slices.Clone(room)
	for end := range room {
		list := room[:end]
		impl.TableOk(list)
		impl.Where(list, 2, 1)
		impl.Age(list)
		for _, port := range []int{-1, 0, 3, 4} {
			impl.Forget(list, port)
			for addr := range 11 {
				got := impl.Hear(list, addr, 1, port)
				_ = append(got, impl.Heard{Addr: 99})
				impl.Hear(list, addr, 4, port)
			}
		}
	}
	wantTable(t, "was written into", room, kept)
}

// heardFrom makes a list of any bytes, mostly within the limits or beyond by one.
func heardFrom(b []byte) []impl.Heard {
	var list []impl.Heard
	for ; len(b) >= 2; b = b[2:] {
		list = append(list, impl.Heard{Addr: int(b[0] & 15), Vlan: int(b[0] >> 4 & 7), Port: int(b[1]&7) - 1, Left: int(b[1] >> 3)})
	}
	return list
}

func FuzzTable(f *testing.F) {
	f.Add([]byte("\x11\x29\x13\x31\x21\x19"), 3, 1, 0)
	f.Add([]byte{}, 0, 0, 0)
	f.Fuzz(func(t *testing.T, b []byte, addr int, vlan int, port int) {
		list := heardFrom(b)
		if impl.TableOk(list) != plainTableOk(list) {
			t.Errorf("TableOk(%v): %v", list, impl.TableOk(list))
		}
		next := impl.Hear(list, addr, vlan, port)
		wantTable(t, "Hear", next, plainHear(list, addr, vlan, port))
		if at, ok := impl.Where(next, addr, vlan); impl.TableOk(next) && len(next) > len(list) && (!ok || at != port) {
			t.Errorf("%d in %d was heard at %d, and is at %d %v", addr, vlan, port, at, ok)
		}
		if ok := impl.TableOk(list); ok && (!impl.TableOk(impl.Age(list)) || !impl.TableOk(impl.Forget(list, port))) {
			t.Errorf("no table any longer: %v", list)
		}
	})
}
