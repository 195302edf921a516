package poly_test

import (
	"math/rand"
	"testing"

	"zellige/api"
	"zellige/cell"
	"zellige/pdt"
	"zellige/poly"
	"zellige/rat"
	"zellige/unfold"
)

// maxN is the greatest side, written out apart from api.
const maxN = 1073741824

// place is an id and its site.
func place(id int, x, y int64) api.Place {
	return api.Place{ID: id, At: api.Point{X: x, Y: y}}
}

// facesOf is the faces of the sites' Delaunay mesh.
func facesOf(t testing.TB, n int64, l []api.Place) []api.Tri {
	t.Helper()
	e, err := pdt.Open(n, 1000000)
	if err != api.OK {
		t.Fatal(n, err)
	}
	if err := e.Set(l); err != api.OK {
		t.Fatalf("Set(%v): %d", l, err)
	}
	f, ok := unfold.Faces(e.Dump(), n)
	if !ok {
		t.Fatalf("of %v, n %d: no faces", l, n)
	}
	return f
}

// somePlaces are so many places of different sites, at most as many as there are.
func somePlaces(r *rand.Rand, n int64, many int) []api.Place {
	var l []api.Place
	taken := map[api.Point]bool{}
	for int64(len(l)) < min(int64(many), n*n) {
		p := place(len(l), r.Int63n(n), r.Int63n(n))
		if !taken[p.At] {
			taken[p.At] = true
			l = append(l, p)
		}
	}
	return l
}

// holdCells holds that each cell's centroid is in the cell and inside of its corners, and that all cells have the torus's area together.
func holdCells(t *testing.T, n int64, l []api.Place) {
	t.Helper()
	f := facesOf(t, n, l)
	sum := rat.Of(0)
	for _, p := range l {
		corners, ok := cell.Cell(l, f, n, p.ID)
		if !ok {
			t.Fatalf("of %v, n %d: no cell of %d", l, n, p.ID)
		}
		area := holdArea2(t, corners)
		center, ok := holdCentroid(t, corners)
		if rat.Sign(area) <= 0 || !ok || !turnsLeft(vectors(corners)) {
			t.Fatalf("of %v, n %d, %d: %s", l, n, p.ID, text(corners))
		}
		if !holdInside(t, corners, center) || !cell.Holds(l, n, p.ID, center) {
			t.Fatalf("of %v, n %d, %d: %s is not in the cell", l, n, p.ID, show(center))
		}
		for _, s := range append(corners, vec(p.At.X, p.At.Y).spot()) {
			if !holdInside(t, corners, s) {
				t.Fatalf("of %v, n %d, %d: %s is not inside", l, n, p.ID, show(s))
			}
		}
		sum = rat.Add(sum, area)
	}
	if want := rat.Mul(rat.Of(2*n), rat.Of(n)); rat.Cmp(sum, want) != 0 {
		t.Fatalf("of %v, n %d: %s, not %s", l, n, rat.Show(sum), rat.Show(want))
	}
}

// P20.6, P19.4: of the cells of Delaunay meshes, of few sites and of more, with corners told twice and without.
func TestCells(t *testing.T) {
	r := rand.New(rand.NewSource(31))
	for _, n := range []int64{1, 2, 3, 10, 400, maxN - 1, maxN} {
		for _, many := range []int{1, 2, 3, 4, 7, 20} {
			holdCells(t, n, somePlaces(r, n, many))
		}
	}
	for _, n := range []int64{60, 1000, maxN} {
		holdCells(t, n, somePlaces(r, n, 150))
	}
	for _, k := range []int64{1, 2, 3, 6, 10} {
		var grid []api.Place
		for i := range k {
			for j := range k {
				grid = append(grid, place(len(grid), 2*i, 2*j))
			}
		}
		holdCells(t, 2*k, grid)
	}
}

// P20.1, P20.2: a cell of which some corners are told twice, and its area and center.
func TestCellOfOne(t *testing.T) {
	l := []api.Place{place(0, 3, 4)}
	corners, ok := cell.Cell(l, facesOf(t, 10, l), 10, 0)
	if !ok || len(corners) != 6 {
		t.Fatal(text(corners))
	}
	measured(t, corners, "200", "3 4")
	if _, ok := poly.Centroid(corners[:2]); ok {
		t.Error("of two")
	}
}
