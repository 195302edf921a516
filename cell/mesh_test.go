package cell_test

import (
	"math/big"
	"math/rand"
	"slices"
	"testing"

	"zellige/api"
	"zellige/cell"
	"zellige/poly"
	"zellige/rat"
)

// mesh is sites on a torus, their faces, and all cells' corners, by ids.
type mesh struct {
	n     int64
	l     []api.Place
	f     []api.Tri
	cells map[int][]api.Spot
}

// meshOf lays the sites' mesh out and asks for each cell.
func meshOf(t testing.TB, n int64, l []api.Place) (mesh, int) {
	t.Helper()
	f, sheets := laid(t, n, l)
	m := mesh{n: n, l: l, f: f, cells: map[int][]api.Spot{}}
	for _, p := range l {
		spots, ok := holdCell(t, l, f, n, p.ID)
		if !ok {
			t.Fatalf("Cell(%v, %v, %d, %d): none", l, f, n, p.ID)
		}
		m.cells[p.ID] = spots
	}
	return m, sheets
}

// someMeshes are meshes of sites on tori of sides from 1 on, of one sheet and of nine, with ties and without.
func someMeshes(t *testing.T, seed int64, many ...int) []mesh {
	t.Helper()
	r := rand.New(rand.NewSource(seed))
	met := map[int]int{}
	var all []mesh
	add := func(n int64, l []api.Place) {
		m, sheets := meshOf(t, n, l)
		met[sheets]++
		all = append(all, m)
	}
	for _, n := range []int64{1, 2, 3, 5, 17, 400, maxN - 1, maxN} {
		for _, k := range many {
			add(n, somePlaces(r, n, k))
		}
	}
	add(maxN, []api.Place{place(0, 0, 0), place(1, maxN-1, maxN-1)})
	add(maxN, []api.Place{place(0, 0, 0), place(1, 1, 0), place(2, 0, 1)})
	for k := 1; k <= 5; k++ {
		add(int64(k), gridPlaces(k, 1))
		add(int64(k)*(maxN/8), gridPlaces(k, maxN/8))
	}
	if met[1] < 5 || met[3] < 5 {
		t.Fatal(met)
	}
	return all
}

// The whole of P19.1, P19.3 and P19.4 is asked of each mesh's cells.
func TestMeshes(t *testing.T) {
	for _, m := range someMeshes(t, 21, 1, 2, 3, 4, 5, 8, 13) {
		m.areNearest(t)
		m.holdCorners(t)
		m.holdSites(t)
		m.fill(t)
	}
}

// areNearest holds that the corners are those of all that is as near to the site as to any other one's place, and turn left about it: P19.1.
func (m mesh) areNearest(t *testing.T) {
	t.Helper()
	for id, spots := range m.cells {
		if want := trueCell(m.l, m.n, id); !sameRound(want, once(vectors(spots))) {
			t.Fatalf("of %v, n %d, %d: %v, not %v", m.l, m.n, id, texts(spots), want)
		}
		// A corner that is told again is told right behind itself.
		list := around(texts(spots))
		if len(slices.Compact(list)) != len(once(vectors(spots))) {
			t.Fatalf("of %v, n %d, %d: %v", m.l, m.n, id, texts(spots))
		}
	}
}

// holdCorners holds that each corner is in the cell, a spot a little nearer to the site is, and one a little farther out is not: P19.3.
func (m mesh) holdCorners(t *testing.T) {
	t.Helper()
	in, out := big.NewRat(999999999999, 1000000000000), big.NewRat(1000000000001, 1000000000000)
	for id, spots := range m.cells {
		site, _ := firstOf(m.l, id)
		a := vec(site.X, site.Y)
		for _, s := range spots {
			v := vecOf(s)
			if !cell.Holds(m.l, m.n, id, s) || !cell.Holds(m.l, m.n, id, spotOf(t, a.toward(v, in))) || cell.Holds(m.l, m.n, id, spotOf(t, a.toward(v, out))) {
				t.Fatalf("of %v, n %d, %d: %s", m.l, m.n, id, show(s))
			}
		}
	}
}

// holdSites holds that each site is in its own cell, and in no other one: P19.3.
func (m mesh) holdSites(t *testing.T) {
	t.Helper()
	for _, p := range m.l {
		s := spotOf(t, vec(p.At.X, p.At.Y))
		for _, q := range m.l {
			if cell.Holds(m.l, m.n, q.ID, s) != (p.ID == q.ID) {
				t.Fatalf("of %v, n %d: %v, %v", m.l, m.n, p, q)
			}
		}
	}
}

// fill holds that all cells turn left, and have the area of the torus together, by poly's word, too: P19.4.
func (m mesh) fill(t *testing.T) {
	t.Helper()
	sum, told := new(big.Rat), rat.Of(0)
	for id, spots := range m.cells {
		area := area2(vectors(spots))
		if area.Sign() <= 0 {
			t.Fatalf("of %v, n %d, %d: %v", m.l, m.n, id, texts(spots))
		}
		sum.Add(sum, area)
		told = rat.Add(told, poly.Area2(spots))
	}
	side := new(big.Rat).SetInt64(m.n)
	if want := times(times(side, side), big.NewRat(2, 1)); sum.Cmp(want) != 0 || toBig(told).Cmp(want) != 0 {
		t.Fatalf("of %v, n %d: %v, %s, not %v", m.l, m.n, sum, rat.Show(told), want)
	}
}

// P19.4: of more sites, on one sheet, where all corners are fractions, and of full squares, each point of which is a site.
func TestAreas(t *testing.T) {
	r := rand.New(rand.NewSource(22))
	for _, n := range []int64{40, 1000, maxN} {
		m, sheets := meshOf(t, n, somePlaces(r, n, 300))
		if sheets != 1 {
			t.Fatal(sheets)
		}
		m.fill(t)
	}
	for _, k := range []int{10, 16} {
		m, _ := meshOf(t, int64(k), gridPlaces(k, 1))
		m.fill(t)
		for id, spots := range m.cells {
			if area2(vectors(spots)).Cmp(big.NewRat(2, 1)) != 0 {
				t.Fatal(k, id, texts(spots))
			}
		}
	}
}

// P19.3: of more sites each corner is in the cell, and so is the site; told apart from Holds's own reckoning at the corners alone.
func TestCornersOfMany(t *testing.T) {
	r := rand.New(rand.NewSource(23))
	for _, n := range []int64{25, maxN} {
		m, _ := meshOf(t, n, somePlaces(r, n, 40))
		m.holdCorners(t)
		m.holdSites(t)
	}
}

// P19.2: any spot is in the cells of just those ids whose sites, by some sides off, are nearest to it: seen from these.
func TestSpotsOfAll(t *testing.T) {
	r := rand.New(rand.NewSource(24))
	for _, m := range someMeshes(t, 25, 1, 2, 4, 7) {
		for range 12 {
			den := 1 + r.Int63n(5)
			s := vector{big.NewRat(r.Int63n(m.n*den), den), big.NewRat(r.Int63n(m.n*den), den)}
			m.holdNearest(t, s)
		}
	}
}

// holdNearest holds that the spot, of the first square, is in the cells of those that are nearest, and of no others.
func (m mesh) holdNearest(t *testing.T, s vector) {
	t.Helper()
	var least *big.Rat
	each := func(do func(p api.Place, o api.Off, far *big.Rat)) {
		for _, p := range m.l {
			for x := -1; x <= 1; x++ {
				for y := -1; y <= 1; y++ {
					do(p, off(x, y), apart(s, p.At, off(x, y), m.n))
				}
			}
		}
	}
	each(func(_ api.Place, _ api.Off, far *big.Rat) {
		if least == nil || far.Cmp(least) < 0 {
			least = far
		}
	})
	each(func(p api.Place, o api.Off, far *big.Rat) {
		// Moved back, so that this place of the site is the one in the first square.
		seen := s.from(vec(int64(o.X)*m.n, int64(o.Y)*m.n))
		if cell.Holds(m.l, m.n, p.ID, spotOf(t, seen)) != (far.Cmp(least) == 0) {
			t.Fatalf("of %v, n %d, %v, %v: %v", m.l, m.n, p, o, s)
		}
	})
}

// FuzzAll makes sites of any numbers, and holds all that is told of their cells, and of other faces and spots, against the words.
func FuzzAll(f *testing.F) {
	f.Add(uint8(10), []byte{1, 2, 3, 4}, int64(1), int64(7), int64(-3))
	f.Add(uint8(2), []byte{0, 0, 0, 1, 1, 0, 1, 1}, int64(2), int64(1), int64(2))
	f.Add(uint8(255), []byte{7, 200, 100, 3, 9, 9, 250, 250, 1, 128}, int64(3), int64(1000), int64(99))
	f.Fuzz(func(t *testing.T, side uint8, numbers []byte, seed, x, y int64) {
		n := int64(max(side, 1))
		var l []api.Place
		for i := 0; i+1 < len(numbers) && i < 12; i += 2 {
			p := at(int64(numbers[i])%n, int64(numbers[i+1])%n)
			if !slices.ContainsFunc(l, func(q api.Place) bool { return q.At == p }) {
				l = append(l, api.Place{ID: len(l), At: p})
			}
		}
		m, _ := meshOf(t, n, l)
		r := rand.New(rand.NewSource(seed))
		if len(l) > 0 {
			m.areNearest(t)
			m.holdCorners(t)
			m.holdSites(t)
			m.fill(t)
			m.holdNearest(t, vector{big.NewRat(r.Int63n(n*7), 7), big.NewRat(r.Int63n(n*3), 3)})
		}
		s := spotOf(t, vector{big.NewRat(x, 1+r.Int63n(9)), big.NewRat(y, 1+r.Int63n(9))})
		for range 5 {
			other := append(slices.Clone(l), api.Place{ID: r.Intn(len(l) + 1), At: at(r.Int63n(2*n)-n/2, x)})
			faces := slices.Clone(m.f)
			if len(faces) > 0 {
				faces[r.Intn(len(faces))].V[r.Intn(3)] = r.Intn(len(l) + 1)
			}
			r.Shuffle(len(other), func(i, k int) { other[i], other[k] = other[k], other[i] })
			for id := range len(l) + 2 {
				holdCell(t, other, m.f, n, id)
				holdCell(t, other, faces, n, id)
				holds(t, other, n, id, s)
			}
		}
	})
}
