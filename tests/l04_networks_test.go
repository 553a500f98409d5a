package tests

import (
	"fmt"
	"math"
	"math/rand"
	"reflect"
	"slices"
	"strings"
	"testing"

	"loop.example/g01021/impl"
)

// The declarations of chapter 4, which must keep their types.
var (
	_ func(impl.Mine) bool                            = impl.ValidMine
	_ func(impl.Mine, impl.Mine) bool                 = impl.SameMine
	_ func(impl.Mine, string) (int64, int64)          = impl.AirwayNamed
	_ func(impl.Mine, impl.Airway) (impl.Mine, int64) = impl.AddAirway
	_ func(impl.Mine, string) (impl.Mine, int64)      = impl.DropAirway
	_ func(impl.Mine, int64) ([]int64, int64)         = impl.AirwaysAt
	_ func(impl.Mine) ([]int64, int64)                = impl.PartsOf
	_ func(impl.Mine) ([]int64, int64)                = impl.TreeOf
	_ func(impl.Mine) ([][]int64, int64)              = impl.MeshesOf
	_ func(impl.Mine, int64, int64) ([]int64, int64)  = impl.PathOf
	_ func(impl.Mine) ([]int64, int64)                = impl.BridgesOf
	_ func(impl.Mine) string                          = impl.MineText
	_ func(string) (impl.Mine, bool)                  = impl.ReadMine
	_ [impl.MaxAirways]struct{}                       = [24]struct{}{}
	_                                                 = impl.Mine{Junctions: int64(1), Airways: []impl.Airway{}}
)

// airwayBetween returns an airway whose Ids are in the order of their numbers, from 0 to 99.
func airwayBetween(number int, from, to int64) impl.Airway {
	return impl.Airway{Id: fmt.Sprintf("a%02d", number), From: from, To: to, Length: 100, Section: 1000, Friction: 100}
}

// mineOf returns a mine with airways between pairs of junctions, in order.
func mineOf(junctions int64, ends ...[2]int64) impl.Mine {
	m := impl.Mine{Junctions: junctions}
	for i, e := range ends {
		m.Airways = append(m.Airways, airwayBetween(i, e[0], e[1]))
	}
	return m
}

// triangle returns three airways around three junctions.
func triangle() impl.Mine { return mineOf(3, [2]int64{0, 1}, [2]int64{1, 2}, [2]int64{2, 0}) }

// grid returns the 24 airways of 16 junctions in four rows.
func grid() impl.Mine {
	var ends [][2]int64
	for j := range int64(16) {
		if j%4 < 3 {
			ends = append(ends, [2]int64{j, j + 1})
		}
		if j < 12 {
			ends = append(ends, [2]int64{j + 4, j})
		}
	}
	return mineOf(16, ends...)
}

// line returns a mine that is a single way through all junctions.
func line() impl.Mine {
	var ends [][2]int64
	for j := range int64(15) {
		ends = append(ends, [2]int64{j, j + 1})
	}
	return mineOf(16, ends...)
}

// sideBySide returns as many airways as allowed between two junctions.
func sideBySide() impl.Mine {
	var ends [][2]int64
	for i := range int64(24) {
		ends = append(ends, [2]int64{i % 2, 1 - i%2})
	}
	return mineOf(2, ends...)
}

func randomMine(random *rand.Rand, junctions, airways int) impl.Mine {
	var ends [][2]int64
	for range airways {
		a := random.Int63n(int64(junctions))
		b := (a + 1 + random.Int63n(int64(junctions-1))) % int64(junctions)
		ends = append(ends, [2]int64{a, b})
	}
	return mineOf(int64(junctions), ends...)
}

// validMines returns mines at each limit, ordinary ones, and many at random.
func validMines() []impl.Mine {
	alone := mineOf(2, [2]int64{1, 0})
	alone.Airways[0] = validAirways()[2]
	alone.Airways[0].To = 1
	list := []impl.Mine{
		{Junctions: 1}, {Junctions: 1, Airways: []impl.Airway{}}, {Junctions: 2}, {Junctions: 16}, alone, triangle(), grid(), line(), sideBySide(),
		mineOf(4, [2]int64{3, 2}, [2]int64{1, 0}, [2]int64{2, 3}),
		mineOf(6, [2]int64{4, 5}, [2]int64{5, 3}, [2]int64{3, 4}, [2]int64{1, 3}),
	}
	random := rand.New(rand.NewSource(11))
	for range 400 {
		list = append(list, randomMine(random, 2+random.Intn(5), random.Intn(9)))
	}
	for range 40 {
		list = append(list, randomMine(random, 2+random.Intn(15), random.Intn(25)))
	}
	return list
}

// invalidMines returns mines each of which breaks one rule.
func invalidMines() []impl.Mine {
	list := []impl.Mine{{}}
	for _, n := range []int64{math.MinInt64, -1, 0, 17, math.MaxInt64} {
		m := triangle()
		m.Junctions = n
		list = append(list, m, impl.Mine{Junctions: n})
	}
	with := func(change func(m *impl.Mine)) {
		m := triangle()
		change(&m)
		list = append(list, m)
	}
	// Each end beyond the junctions of the mine, but a junction for itself.
	with(func(m *impl.Mine) { m.Airways[2].From = 3 })
	with(func(m *impl.Mine) { m.Airways[0].To = 3 })
	with(func(m *impl.Mine) { m.Airways[1].To = 15 })
	with(func(m *impl.Mine) { m.Junctions = 2 })
	// Ids in no order, and one twice.
	with(func(m *impl.Mine) { m.Airways[1].Id = m.Airways[0].Id })
	with(func(m *impl.Mine) { m.Airways[2].Id = m.Airways[1].Id })
	with(func(m *impl.Mine) { slices.Reverse(m.Airways) })
	with(func(m *impl.Mine) { m.Airways[0], m.Airways[1] = m.Airways[1], m.Airways[0] })
	with(func(m *impl.Mine) { m.Airways[1].Id = "a1"; m.Airways[2].Id = "a10"; m.Airways[0].Id = "a9" })
	for _, a := range invalidAirways() {
		list = append(list, impl.Mine{Junctions: 16, Airways: []impl.Airway{a}})
		if a.Id == mainAirway().Id {
			list = append(list, impl.Mine{Junctions: 16, Airways: []impl.Airway{airwayBetween(0, 0, 1), a}})
		}
	}
	full := sideBySide()
	full.Airways = append(full.Airways, airwayBetween(24, 0, 1))
	return append(list, full)
}

// neighbours returns the junctions to which one airway leads from one, without those of some airways.
func neighbours(m impl.Mine, junction int64, without ...int64) []int64 {
	var list []int64
	for k, a := range m.Airways {
		if slices.Contains(without, int64(k)) {
			continue
		}
		if a.From == junction {
			list = append(list, a.To)
		}
		if a.To == junction {
			list = append(list, a.From)
		}
	}
	return list
}

// reached returns the junctions to which airways lead from one, in ascending order.
func reached(m impl.Mine, junction int64, without ...int64) []int64 {
	in := make([]bool, m.Junctions)
	in[junction] = true
	for range m.Junctions {
		for j := range m.Junctions {
			for _, next := range neighbours(m, j, without...) {
				in[next] = in[next] || in[j]
			}
		}
	}
	var list []int64
	for j, is := range in {
		if is {
			list = append(list, int64(j))
		}
	}
	return list
}

func expectList(t *testing.T, got []int64, code int64, want []int64, name string, args ...any) {
	t.Helper()
	if code != impl.OK || !slices.Equal(got, want) {
		t.Errorf("%s of %v: got %v with the code %d, want %v", name, args, got, code, want)
	}
}

func expectNoList(t *testing.T, got []int64, code, want int64, name string, args ...any) {
	t.Helper()
	if code != want || len(got) != 0 {
		t.Errorf("%s of %v: got %v with the code %d, want nothing with the code %d", name, args, got, code, want)
	}
}

func expectNoMine(t *testing.T, got impl.Mine, code, want int64, name string, args ...any) {
	t.Helper()
	if code != want || got.Junctions != 0 || len(got.Airways) != 0 {
		t.Errorf("%s of %v: got %v with the code %d, want the zero Mine with the code %d", name, args, got, code, want)
	}
}

func TestValidMine(t *testing.T) {
	for _, m := range validMines() {
		if !impl.ValidMine(m) {
			t.Errorf("%v is not valid", m)
		}
	}
	for _, m := range invalidMines() {
		if impl.ValidMine(m) {
			t.Errorf("%v is valid", m)
		}
	}
	// Ids are compared bytewise, and a digit comes before a letter.
	m := triangle()
	m.Airways[0].Id, m.Airways[1].Id, m.Airways[2].Id = "a", "a10", "a9"
	if !impl.ValidMine(m) {
		t.Errorf("%v is not valid", m)
	}
}

func TestInvalidMinesComeFirst(t *testing.T) {
	for _, m := range invalidMines() {
		for _, id := range []string{"", "a00", "main", "x"} {
			expect(t, answerOf(impl.AirwayNamed(m, id)), failed(impl.ErrInvalid), "AirwayNamed", m, id)
			got, code := impl.DropAirway(m, id)
			expectNoMine(t, got, code, impl.ErrInvalid, "DropAirway", m, id)
		}
		for _, a := range append(invalidAirways(), airwayBetween(0, 0, 1), airwayBetween(50, 0, 15)) {
			got, code := impl.AddAirway(m, a)
			expectNoMine(t, got, code, impl.ErrInvalid, "AddAirway", m, a)
		}
		for _, j := range around(1, 16) {
			got, code := impl.AirwaysAt(m, j)
			expectNoList(t, got, code, impl.ErrInvalid, "AirwaysAt", m, j)
			got, code = impl.PathOf(m, j, j)
			expectNoList(t, got, code, impl.ErrInvalid, "PathOf", m, j, j)
			got, code = impl.PathOf(m, 0, j)
			expectNoList(t, got, code, impl.ErrInvalid, "PathOf", m, 0, j)
		}
		for name, call := range map[string]func(impl.Mine) ([]int64, int64){"PartsOf": impl.PartsOf, "TreeOf": impl.TreeOf, "BridgesOf": impl.BridgesOf} {
			got, code := call(m)
			expectNoList(t, got, code, impl.ErrInvalid, name, m)
		}
		if meshes, code := impl.MeshesOf(m); code != impl.ErrInvalid || len(meshes) != 0 {
			t.Errorf("MeshesOf(%v) = %v, %d", m, meshes, code)
		}
		if s := impl.MineText(m); s != "" {
			t.Errorf("MineText(%v) = %q", m, s)
		}
	}
}

func TestSameMine(t *testing.T) {
	mines := append(validMines()[:20], invalidMines()...)
	for i, a := range mines {
		for j, b := range mines {
			want := a.Junctions == b.Junctions && len(a.Airways) == len(b.Airways)
			for k := range a.Airways {
				want = want && a.Airways[k] == b.Airways[k]
			}
			if got := impl.SameMine(a, b); got != want || i == j && !got {
				t.Errorf("SameMine(%v, %v) = %v", a, b, got)
			}
		}
	}
	if !impl.SameMine(impl.Mine{Junctions: 7}, impl.Mine{Junctions: 7, Airways: []impl.Airway{}}) {
		t.Error("a mine with nil is not the same as one with no airways")
	}
	for _, change := range []func(a *impl.Airway){
		func(a *impl.Airway) { a.Id = "a02x" }, func(a *impl.Airway) { a.From++ }, func(a *impl.Airway) { a.To++ }, func(a *impl.Airway) { a.Length++ },
		func(a *impl.Airway) { a.Section++ }, func(a *impl.Airway) { a.Friction++ }, func(a *impl.Airway) { a.Shock++ },
	} {
		m := triangle()
		change(&m.Airways[2])
		if impl.SameMine(m, triangle()) || impl.SameMine(triangle(), m) {
			t.Errorf("%v is the same as %v", m, triangle())
		}
	}
}

func TestAirwayNamed(t *testing.T) {
	for _, m := range validMines() {
		for k, a := range m.Airways {
			expect(t, answerOf(impl.AirwayNamed(m, a.Id)), answer{int64(k), impl.OK}, "AirwayNamed", m, a.Id)
		}
		for _, id := range []string{"", "a", "A00", "a0", "a000", "a99", "a00 ", " a00", "\xff", strings.Repeat("a", 1000)} {
			expect(t, answerOf(impl.AirwayNamed(m, id)), failed(impl.ErrNotFound), "AirwayNamed", m, id)
		}
	}
}

func TestAirwaysAreAddedAtTheirPlaces(t *testing.T) {
	for _, whole := range validMines() {
		for k, a := range whole.Airways {
			less, code := impl.DropAirway(whole, a.Id)
			want := impl.Mine{Junctions: whole.Junctions}
			for other, b := range whole.Airways {
				if other != k {
					want.Airways = append(want.Airways, b)
				}
			}
			if code != impl.OK || !impl.SameMine(less, want) || !impl.ValidMine(less) {
				t.Errorf("DropAirway(%v, %q) = %v, %d", whole, a.Id, less, code)
			}
			more, code := impl.AddAirway(less, a)
			if code != impl.OK || !impl.SameMine(more, whole) {
				t.Errorf("AddAirway(%v, %v) = %v, %d", less, a, more, code)
			}
		}
		for _, id := range []string{"", "a", "A00", "a0", "a000", "a99"} {
			got, code := impl.DropAirway(whole, id)
			expectNoMine(t, got, code, impl.ErrNotFound, "DropAirway", whole, id)
		}
	}
	first, code := impl.AddAirway(impl.Mine{Junctions: 2}, airwayBetween(5, 1, 0))
	if code != impl.OK || !slices.Equal(first.Airways, []impl.Airway{airwayBetween(5, 1, 0)}) {
		t.Errorf("the first airway makes %v, %d", first, code)
	}
	// Ids are compared bytewise: a shorter one comes before a longer one that begins with it, and 1 before 9.
	m := impl.Mine{Junctions: 2}
	for _, id := range []string{"b", "a9", "a", "aa", "a10", "z"} {
		a := airwayBetween(0, 0, 1)
		a.Id = id
		m, _ = impl.AddAirway(m, a)
	}
	var ids []string
	for _, a := range m.Airways {
		ids = append(ids, a.Id)
	}
	if !slices.Equal(ids, []string{"a", "a10", "a9", "aa", "b", "z"}) {
		t.Errorf("airways are added in the order %q", ids)
	}
}

func TestErrorsOfAddAirway(t *testing.T) {
	full := sideBySide()
	almost, _ := impl.DropAirway(full, "a07")
	reachable := airwayBetween(50, 1, 0)
	cases := []struct {
		m    impl.Mine
		a    impl.Airway
		code int64
	}{
		{almost, reachable, impl.OK},
		{almost, airwayBetween(7, 0, 1), impl.OK},
		{full, reachable, impl.ErrFull},
		{full, airwayBetween(7, 0, 1), impl.ErrExists},
		// A known Id comes before a wrong end, and this before a full mine.
		{full, airwayBetween(7, 0, 2), impl.ErrExists},
		{full, airwayBetween(50, 0, 2), impl.ErrRange},
		{full, airwayBetween(50, 2, 0), impl.ErrRange},
		{triangle(), airwayBetween(1, 3, 2), impl.ErrExists},
		{triangle(), airwayBetween(3, 3, 2), impl.ErrRange},
		{triangle(), airwayBetween(3, 2, 3), impl.ErrRange},
		{triangle(), airwayBetween(3, 15, 14), impl.ErrRange},
		{triangle(), airwayBetween(3, 2, 1), impl.OK},
		{impl.Mine{Junctions: 1}, airwayBetween(0, 0, 1), impl.ErrRange},
		{line(), airwayBetween(15, 15, 0), impl.OK},
		// An airway that is not valid for itself comes before all others.
		{full, airwayBetween(7, 1, 1), impl.ErrInvalid},
		{triangle(), airwayBetween(3, 0, 16), impl.ErrInvalid},
		{triangle(), airwayBetween(3, -1, 0), impl.ErrInvalid},
	}
	for _, a := range invalidAirways() {
		cases = append(cases, struct {
			m    impl.Mine
			a    impl.Airway
			code int64
		}{full, a, impl.ErrInvalid})
	}
	for _, c := range cases {
		got, code := impl.AddAirway(c.m, c.a)
		if c.code != impl.OK {
			expectNoMine(t, got, code, c.code, "AddAirway", c.m, c.a)
		} else if code != impl.OK || len(got.Airways) != len(c.m.Airways)+1 || !slices.Contains(got.Airways, c.a) || !impl.ValidMine(got) {
			t.Errorf("AddAirway(%v, %v) = %v, %d", c.m, c.a, got, code)
		}
	}
}

func TestAirwaysAt(t *testing.T) {
	for _, m := range validMines() {
		for _, j := range append(around(m.Junctions), 2, 3, 4, 5, 15, 16) {
			got, code := impl.AirwaysAt(m, j)
			if !from(0, m.Junctions-1, j) {
				expectNoList(t, got, code, impl.ErrRange, "AirwaysAt", m, j)
				continue
			}
			var want []int64
			for k, a := range m.Airways {
				if a.From == j || a.To == j {
					want = append(want, int64(k))
				}
			}
			expectList(t, got, code, want, "AirwaysAt", m, j)
		}
	}
}

func TestPartsOf(t *testing.T) {
	for _, m := range validMines() {
		var want []int64
		for j := range m.Junctions {
			want = append(want, reached(m, j)[0])
		}
		got, code := impl.PartsOf(m)
		expectList(t, got, code, want, "PartsOf", m)
	}
	got, code := impl.PartsOf(mineOf(6, [2]int64{5, 4}, [2]int64{1, 3}, [2]int64{4, 1}))
	expectList(t, got, code, []int64{0, 1, 2, 1, 1, 1}, "PartsOf", "a chain that begins at its end")
	got, code = impl.PartsOf(impl.Mine{Junctions: 1})
	expectList(t, got, code, []int64{0}, "PartsOf", "one junction")
}

// wantTree takes an airway if no airway before it, of which all that matter are taken, leads to its other end.
func wantTree(m impl.Mine) []int64 {
	var tree []int64
	for k, a := range m.Airways {
		before := impl.Mine{Junctions: m.Junctions, Airways: m.Airways[:k]}
		if !slices.Contains(reached(before, a.From), a.To) {
			tree = append(tree, int64(k))
		}
	}
	return tree
}

func TestTreeOf(t *testing.T) {
	for _, m := range validMines() {
		got, code := impl.TreeOf(m)
		expectList(t, got, code, wantTree(m), "TreeOf", m)
	}
	got, code := impl.TreeOf(sideBySide())
	expectList(t, got, code, []int64{0}, "TreeOf", "airways side by side")
	got, code = impl.TreeOf(mineOf(5, [2]int64{1, 0}, [2]int64{3, 4}, [2]int64{0, 1}, [2]int64{4, 0}, [2]int64{1, 3}, [2]int64{2, 1}))
	expectList(t, got, code, []int64{0, 1, 3, 5}, "TreeOf", "two parts that are joined")
}

// walked returns where a walk that begins at a junction ends, and false if a step does not begin where the one before it ended.
func walked(m impl.Mine, walk []int64, here int64) (int64, bool) {
	for _, step := range walk {
		k := max(step, -step) - 1
		if step == 0 || k >= int64(len(m.Airways)) {
			return 0, false
		}
		begin, end := m.Airways[k].From, m.Airways[k].To
		if step < 0 {
			begin, end = end, begin
		}
		if begin != here {
			return 0, false
		}
		here = end
	}
	return here, true
}

// indicesOf returns the airways of a walk.
func indicesOf(walk []int64) []int64 {
	var indices []int64
	for _, step := range walk {
		indices = append(indices, max(step, -step)-1)
	}
	return indices
}

// TestMeshesComeBack covers P5: what it demands of a mesh has no other walk.
func TestMeshesComeBack(t *testing.T) {
	for _, m := range validMines() {
		tree, _ := impl.TreeOf(m)
		meshes, code := impl.MeshesOf(m)
		if code != impl.OK || len(tree)+len(meshes) != len(m.Airways) {
			t.Fatalf("MeshesOf(%v) = %v, %d, with the tree %v", m, meshes, code, tree)
		}
		all := slices.Clone(tree)
		for _, mesh := range meshes {
			first, rest := mesh[0]-1, indicesOf(mesh[1:])
			if mesh[0] < 1 || slices.Contains(all, first) || len(all) > len(tree) && first < all[len(all)-1] {
				t.Errorf("MeshesOf(%v) = %v, with the tree %v", m, meshes, tree)
			}
			all = append(all, first)
			start := m.Airways[first].From
			if end, ok := walked(m, mesh, start); !ok || end != start {
				t.Errorf("the mesh %v of %v does not come back", mesh, m)
			}
			slices.Sort(rest)
			for i, k := range rest {
				if !slices.Contains(tree, k) || i > 0 && k == rest[i-1] {
					t.Errorf("the mesh %v of %v does not keep to the tree %v", mesh, m, tree)
				}
			}
		}
		slices.Sort(all)
		for k := range m.Airways {
			if all[k] != int64(k) {
				t.Errorf("the tree %v and the meshes %v of %v do not have all airways", tree, meshes, m)
			}
		}
	}
}

func TestMeshesByHand(t *testing.T) {
	cases := []struct {
		m      impl.Mine
		meshes [][]int64
	}{
		{impl.Mine{Junctions: 1}, nil},
		{line(), nil},
		// The document's example, and the same with airways turned.
		{triangle(), [][]int64{{3, 1, 2}}},
		{mineOf(3, [2]int64{0, 1}, [2]int64{1, 2}, [2]int64{0, 2}), [][]int64{{3, -2, -1}}},
		{mineOf(3, [2]int64{1, 0}, [2]int64{1, 2}, [2]int64{0, 2}), [][]int64{{3, -2, 1}}},
		{mineOf(3, [2]int64{1, 0}, [2]int64{2, 1}, [2]int64{2, 0}), [][]int64{{3, -1, -2}}},
		// Side by side.
		{mineOf(2, [2]int64{0, 1}, [2]int64{0, 1}, [2]int64{1, 0}), [][]int64{{2, -1}, {3, 1}}},
		{mineOf(2, [2]int64{1, 0}, [2]int64{1, 0}, [2]int64{0, 1}), [][]int64{{2, -1}, {3, 1}}},
		// A mesh goes along the tree, though there is a shorter way.
		{mineOf(4, [2]int64{0, 1}, [2]int64{1, 2}, [2]int64{2, 3}, [2]int64{3, 0}, [2]int64{0, 3}), [][]int64{{4, 1, 2, 3}, {5, -3, -2, -1}}},
		// Two parts with a mesh each, and one airway that is in no mesh.
		{mineOf(6, [2]int64{4, 5}, [2]int64{1, 0}, [2]int64{5, 4}, [2]int64{2, 1}, [2]int64{1, 0}), [][]int64{{3, 1}, {5, -2}}},
	}
	for _, c := range cases {
		meshes, code := impl.MeshesOf(c.m)
		if code != impl.OK || fmt.Sprint(meshes) != fmt.Sprint(c.meshes) {
			t.Errorf("MeshesOf(%v) = %v, %d, want %v", c.m, meshes, code, c.meshes)
		}
	}
}

// wantPath looks at all walks, shorter ones first, and walks of the same length in the order of their indices.
func wantPath(m impl.Mine, from, to int64) ([]int64, bool) {
	type way struct {
		walk []int64
		end  int64
	}
	ways := []way{{nil, from}}
	for range m.Junctions {
		var longer []way
		for _, w := range ways {
			if w.end == to {
				return w.walk, true
			}
			for k, a := range m.Airways {
				if a.From == w.end {
					longer = append(longer, way{append(slices.Clone(w.walk), int64(k)+1), a.To})
				}
				if a.To == w.end {
					longer = append(longer, way{append(slices.Clone(w.walk), -int64(k)-1), a.From})
				}
			}
		}
		ways = longer
	}
	return nil, false
}

func TestPathsAreTheFirstOfTheShortest(t *testing.T) {
	for _, m := range validMines() {
		if m.Junctions > 6 || len(m.Airways) > 8 {
			continue
		}
		for from := range m.Junctions {
			for to := range m.Junctions {
				want, ok := []int64(nil), slices.Contains(reached(m, from), to)
				if ok {
					want, ok = wantPath(m, from, to)
				}
				got, code := impl.PathOf(m, from, to)
				if ok {
					expectList(t, got, code, want, "PathOf", m, from, to)
				} else {
					expectNoList(t, got, code, impl.ErrNotFound, "PathOf", m, from, to)
				}
			}
		}
	}
}

func TestPathsLeadToTheirEnds(t *testing.T) {
	for _, m := range validMines() {
		for from := range m.Junctions {
			joined := reached(m, from)
			for to := range m.Junctions {
				got, code := impl.PathOf(m, from, to)
				if !slices.Contains(joined, to) {
					expectNoList(t, got, code, impl.ErrNotFound, "PathOf", m, from, to)
				} else if end, ok := walked(m, got, from); code != impl.OK || !ok || end != to {
					t.Errorf("PathOf(%v, %d, %d) = %v, %d", m, from, to, got, code)
				}
			}
		}
	}
}

func TestPathsByHand(t *testing.T) {
	square := mineOf(4, [2]int64{0, 3}, [2]int64{2, 1}, [2]int64{0, 1}, [2]int64{3, 2}, [2]int64{0, 1})
	cases := []struct {
		name     string
		m        impl.Mine
		from, to int64
		path     []int64
	}{
		{"one junction", impl.Mine{Junctions: 1}, 0, 0, nil},
		{"the same", triangle(), 1, 1, nil},
		{"a last one", impl.Mine{Junctions: 16}, 15, 15, nil},
		{"against it", triangle(), 0, 2, []int64{-3}},
		{"along it", triangle(), 2, 0, []int64{3}},
		// Indices are compared, not the numbers that stand for steps: 0 along comes before 2 along, and 0 against as well.
		{"two ways", square, 0, 2, []int64{1, 4}},
		{"two ways back", square, 2, 0, []int64{2, -3}},
		{"the first one side by side", square, 1, 0, []int64{-3}},
		{"on both sides", square, 3, 1, []int64{-1, 3}},
		{"a greater index against it", mineOf(2, [2]int64{0, 1}, [2]int64{1, 0}), 0, 1, []int64{1}},
		{"a lesser index along it", mineOf(2, [2]int64{0, 1}, [2]int64{1, 0}), 1, 0, []int64{-1}},
		{"no detour with a lesser index", mineOf(3, [2]int64{0, 1}, [2]int64{1, 2}, [2]int64{2, 0}), 0, 2, []int64{-3}},
		{"across the line", line(), 0, 15, []int64{1, 2, 3, 4, 5, 6, 7, 8, 9, 10, 11, 12, 13, 14, 15}},
		{"back on the line", line(), 15, 12, []int64{-15, -14, -13}},
		{"side by side", sideBySide(), 1, 0, []int64{-1}},
		{"across the grid", grid(), 0, 15, []int64{1, 3, 5, -7, -14, -21}},
		{"back across the grid", grid(), 15, 0, []int64{21, 14, 7, -5, -3, -1}},
	}
	for _, c := range cases {
		got, code := impl.PathOf(c.m, c.from, c.to)
		expectList(t, got, code, c.path, "PathOf", c.name)
	}
	for _, j := range around(2) {
		if from(0, 2, j) {
			continue
		}
		for _, other := range []int64{0, 2, j} {
			got, code := impl.PathOf(triangle(), j, other)
			expectNoList(t, got, code, impl.ErrRange, "PathOf", "triangle", j, other)
			got, code = impl.PathOf(triangle(), other, j)
			expectNoList(t, got, code, impl.ErrRange, "PathOf", "triangle", other, j)
		}
	}
	got, code := impl.PathOf(impl.Mine{Junctions: 2}, 0, 2)
	expectNoList(t, got, code, impl.ErrRange, "PathOf", "two junctions", 0, 2)
	got, code = impl.PathOf(impl.Mine{Junctions: 2}, 0, 1)
	expectNoList(t, got, code, impl.ErrNotFound, "PathOf", "two junctions", 0, 1)
}

func TestBridgesOf(t *testing.T) {
	for _, m := range validMines() {
		var want []int64
		for k, a := range m.Airways {
			if !slices.Contains(reached(m, a.From, int64(k)), a.To) {
				want = append(want, int64(k))
			}
		}
		got, code := impl.BridgesOf(m)
		expectList(t, got, code, want, "BridgesOf", m)
	}
	for _, c := range []struct {
		m       impl.Mine
		bridges []int64
	}{
		{impl.Mine{Junctions: 16}, nil}, {triangle(), nil}, {sideBySide(), nil}, {grid(), nil},
		{line(), []int64{0, 1, 2, 3, 4, 5, 6, 7, 8, 9, 10, 11, 12, 13, 14}},
		{mineOf(5, [2]int64{3, 4}, [2]int64{0, 1}, [2]int64{2, 3}, [2]int64{1, 2}, [2]int64{2, 0}), []int64{0, 2}},
		{mineOf(3, [2]int64{0, 1}, [2]int64{1, 0}, [2]int64{2, 1}), []int64{2}},
	} {
		got, code := impl.BridgesOf(c.m)
		expectList(t, got, code, c.bridges, "BridgesOf", c.m)
	}
}

func mineText(m impl.Mine) string {
	s := impl.Decimal(m.Junctions)
	for _, a := range m.Airways {
		s += "/" + airwayText(a)
	}
	return s
}

func TestMinesAreReadBack(t *testing.T) {
	for _, m := range validMines() {
		s := impl.MineText(m)
		if s != mineText(m) {
			t.Errorf("MineText(%v) = %q", m, s)
		}
		if got, ok := impl.ReadMine(s); !ok || !impl.SameMine(got, m) {
			t.Errorf("ReadMine(%q) = %v, %v", s, got, ok)
		}
	}
	for _, m := range invalidMines() {
		if got, ok := impl.ReadMine(mineText(m)); ok || got.Junctions != 0 || len(got.Airways) != 0 {
			t.Errorf("ReadMine(%q) = %v, %v", mineText(m), got, ok)
		}
	}
	same := func(got, want string) {
		t.Helper()
		if got != want {
			t.Errorf("a mine has the text %q, want %q", got, want)
		}
	}
	same(impl.MineText(impl.Mine{Junctions: 16}), "16")
	same(impl.MineText(mineOf(3, [2]int64{0, 1}, [2]int64{2, 1})), "3/a00 0,1,100,1000,100,0/a01 2,1,100,1000,100,0")
}

func TestReadMineTakesCanonicalTextsOnly(t *testing.T) {
	a, b := "a 0,1,100,1000,100,0", "b 1,2,100,1000,100,0"
	if m, ok := impl.ReadMine("3/" + a + "/" + b); !ok || m.Junctions != 3 || len(m.Airways) != 2 || m.Airways[1].Id != "b" {
		t.Errorf("%v, %v is read", m, ok)
	}
	full := impl.MineText(sideBySide())
	texts := []string{
		"/", "//", "3/", "/3", "3//", "0", "17", "-1", "-", "03", "+3", "3 ", " 3", "3\n", "3.", "x", "/" + a, a, "3" + a, "3 " + a,
		"3/" + a + "/", "3//" + a, "3/" + a + "//" + b, "/3/" + a, "3/ " + a, "3 /" + a, "3/" + a + " ", "3/" + a + "\n", "3/" + a + "/" + b + "/", "3\\" + a,
		"3/" + b + "/" + a, "3/" + a + "/" + a, "2/" + a + "/" + b, "3/" + a + "," + b, "3/" + a + "/3/" + b, "03/" + a, "+3/" + a, "3/" + a + b, "1/" + a,
		"3/a 0,1,100,1000,100", "3/a 0,1,100,1000,100,0,0", "3/a 0,01,100,1000,100,0", "3/A 0,1,100,1000,100,0", "3/a 0,0,100,1000,100,0", "3/a 0,1,100,49,100,0",
		full + "/a24 0,1,100,1000,100,0", full + "/", full + "/" + full, full + "/a24 0,1,100,1000,100,0/", strings.Repeat("/", 100000), "3" + strings.Repeat("/"+a, 50000),
	}
	for _, s := range append(texts, slices.DeleteFunc(oddTexts(), func(s string) bool { return s == "1" })...) {
		if got, ok := impl.ReadMine(s); ok || got.Junctions != 0 || len(got.Airways) != 0 {
			t.Errorf("ReadMine(%.30q) = %v, %v, want the zero Mine and false", s, got, ok)
		}
	}
	if m, ok := impl.ReadMine(full); !ok || len(m.Airways) != 24 {
		t.Error("a mine with all airways is not read")
	}
}

// resultsOf returns what all functions of chapter 4 return for a mine and some other arguments.
func resultsOf(m impl.Mine) []any {
	var all []any
	keep := func(results ...any) { all = append(all, results) }
	keep(impl.ValidMine(m), impl.SameMine(m, m), impl.MineText(m))
	for _, id := range []string{"", "a00", "a05", "a23", "main", "\xff"} {
		index, code := impl.AirwayNamed(m, id)
		less, dropped := impl.DropAirway(m, id)
		keep(index, code, less, dropped)
	}
	for _, a := range []impl.Airway{{}, mainAirway(), airwayBetween(0, 0, 1), airwayBetween(99, 1, 0), airwayBetween(5, 15, 14), {Id: "a05x", From: math.MinInt64, To: math.MaxInt64}} {
		more, code := impl.AddAirway(m, a)
		keep(more, code)
	}
	for _, j := range around(15) {
		at, code := impl.AirwaysAt(m, j)
		keep(at, code)
		for _, to := range around(15) {
			path, code := impl.PathOf(m, j, to)
			keep(path, code)
		}
	}
	parts, one := impl.PartsOf(m)
	tree, two := impl.TreeOf(m)
	meshes, three := impl.MeshesOf(m)
	bridges, four := impl.BridgesOf(m)
	keep(parts, one, tree, two, meshes, three, bridges, four)
	return all
}

func TestNetworksReturnTheSameForAllArguments(t *testing.T) {
	wild := impl.Mine{Junctions: math.MaxInt64, Airways: make([]impl.Airway, 1000)}
	for _, m := range append(append(validMines(), invalidMines()...), wild) {
		twice(t, "the functions of a mine", func() []any { return resultsOf(m) })
		none := m
		none.Airways = append([]impl.Airway{}, m.Airways...)
		if a, b := fmt.Sprint(resultsOf(m)), fmt.Sprint(resultsOf(none)); a != b {
			t.Errorf("the results for %v depend on where its airways lie", m)
		}
	}
	for _, s := range append(oddTexts(), "3", "3/", "2/a 0,1,100,1000,100,0", "2/a 0,2,100,1000,100,0") {
		twice(t, "ReadMine", func() []any { m, ok := impl.ReadMine(s); return []any{m, ok} })
	}
}

func TestNetworksModifyNoArgument(t *testing.T) {
	for _, m := range append(validMines(), invalidMines()...) {
		// Room behind the airways must stay as it is, too.
		whole := make([]impl.Airway, len(m.Airways), len(m.Airways)+40)
		copy(whole, m.Airways)
		whole = whole[:cap(whole)]
		for i := range whole[len(m.Airways):] {
			whole[len(m.Airways)+i] = airwayBetween(60+i%40, 2, 1)
		}
		before := slices.Clone(whole)
		resultsOf(impl.Mine{Junctions: m.Junctions, Airways: whole[:len(m.Airways)]})
		if !slices.Equal(whole, before) {
			t.Errorf("%v or what lies behind it is changed", m)
		}
	}
}

// spoil writes to a slice and to the room behind it.
func spoil[T any](list []T, with T) {
	for i := range list[:cap(list)] {
		list[:cap(list)][i] = with
	}
}

func TestNetworksReturnNewMemory(t *testing.T) {
	for _, m := range []impl.Mine{triangle(), grid(), line(), sideBySide(), {Junctions: 3}} {
		before := impl.Mine{Junctions: m.Junctions, Airways: slices.Clone(m.Airways)}
		want := resultsOf(m)
		more, _ := impl.AddAirway(m, airwayBetween(99, 0, 1))
		spoil(more.Airways, impl.Airway{})
		less, _ := impl.DropAirway(m, "a00")
		spoil(less.Airways, impl.Airway{})
		last, _ := impl.DropAirway(m, "a02")
		spoil(last.Airways, impl.Airway{})
		read, _ := impl.ReadMine(impl.MineText(m))
		spoil(read.Airways, impl.Airway{})
		for _, call := range []func(impl.Mine) ([]int64, int64){impl.PartsOf, impl.TreeOf, impl.BridgesOf} {
			list, _ := call(m)
			spoil(list, 77)
		}
		at, _ := impl.AirwaysAt(m, 0)
		spoil(at, 77)
		path, _ := impl.PathOf(m, 0, m.Junctions-1)
		spoil(path, 77)
		meshes, _ := impl.MeshesOf(m)
		for i := range meshes {
			rest := fmt.Sprint(meshes[i+1:])
			spoil(meshes[i], 77)
			if fmt.Sprint(meshes[i+1:]) != rest {
				t.Errorf("two meshes of %v share memory", m)
			}
		}
		if !impl.SameMine(m, before) {
			t.Errorf("results share memory with the mine %v", before)
		}
		if got := resultsOf(before); !reflect.DeepEqual(got, want) {
			t.Errorf("results for %v share memory with results before", before)
		}
	}
}
