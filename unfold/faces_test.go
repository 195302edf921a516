package unfold_test

import (
	"math"
	"math/rand"
	"slices"
	"testing"

	"zellige/api"
	"zellige/unfold"
)

// one is the mesh of one vertex, whose site lies in the first square.
func one(side int64, v api.Vert) api.Dump {
	return dump(side, []api.Vert{v},
		tri(v.No, v.No, v.No, off(0, 0), off(1, 0), off(0, 1)),
		tri(v.No, v.No, v.No, off(1, 0), off(1, 1), off(0, 1)))
}

// faces asks Faces, which is to tell these.
func faces(t *testing.T, d api.Dump, n int64, want ...api.Tri) {
	t.Helper()
	if got, ok := holdFaces(t, d, n); !ok || !slices.Equal(got, want) {
		t.Fatalf("Faces(%v, %d): %v %v, not %v", d, n, got, ok, want)
	}
}

// noFaces asks Faces, which is to tell none and false.
func noFaces(t *testing.T, d api.Dump, n int64) {
	t.Helper()
	if got, ok := holdFaces(t, d, n); ok || got != nil {
		t.Fatalf("Faces(%v, %d): %v %v", d, n, got, ok)
	}
}

// Example 1: of one site two faces of the same id, thrice. Told by one sheet and by nine they are the same.
func TestExample(t *testing.T) {
	want := []api.Tri{
		tri(7, 7, 7, off(0, 0), off(-1, 0), off(0, -1)),
		tri(7, 7, 7, off(0, 0), off(-1, 1), off(-1, 0)),
	}
	faces(t, one(10, vert(5, 3, 4, 7)), 10, want...)
	e := engine(t, 10, []api.Place{place(7, 3, 4)})
	if e.Sheets() != 3 {
		t.Fatal(e.Sheets())
	}
	faces(t, e.Dump(), 10, want...)
}

// P18.2: none and false, if n is below 1, or the side is neither n nor three times n.
func TestFacesSides(t *testing.T) {
	for _, c := range []struct {
		side, n int64
		ok      bool
	}{
		{10, 10, true}, {30, 10, true}, {1, 1, true}, {3, 1, true}, {3, 3, true}, {9, 3, true},
		{maxN, maxN, true}, {3 * maxN, maxN, true}, {maxN + 1, maxN + 1, true},
		{math.MaxInt64, math.MaxInt64, true}, {3 * (math.MaxInt64 / 3), math.MaxInt64 / 3, true},
		{10, 0, false}, {0, 0, false}, {10, -10, false}, {-10, -10, false}, {-30, -10, false}, {-3, -1, false}, {3, -1, false},
		{0, 1, false}, {-1, 1, false}, {-3, 1, false}, {2, 1, false}, {4, 1, false}, {6, 1, false}, {9, 1, false},
		{20, 10, false}, {29, 10, false}, {31, 10, false}, {32, 10, false}, {90, 10, false}, {10, 30, false}, {9, 10, false}, {11, 10, false},
		{3, 2, false}, {4, 2, false}, {5, 2, false}, {7, 2, false},
		{math.MinInt64, math.MinInt64, false}, {math.MaxInt64, math.MaxInt64/3 + 1, false}, {math.MaxInt64, math.MaxInt64 / 3, false},
		// Three times n, taken modulo 2^64, would be the side.
		{2, 6148914691236517206, false}, {5, 6148914691236517207, false},
	} {
		for _, d := range []api.Dump{dump(c.side, nil), one(c.side, vert(0, 0, 0, 0))} {
			got, ok := holdFaces(t, d, c.n)
			if ok != c.ok || (len(got) != 0) != (c.ok && len(d.Faces) > 0) {
				t.Errorf("Faces(%v, %d): %v %v", d, c.n, got, ok)
			}
		}
	}
}

// P18.2: none and false, if a face has a vertex that is none of the dump's, whichever face and corner.
func TestFacesUnknownVertex(t *testing.T) {
	for f := range 2 {
		for i := range 3 {
			for _, v := range []int{0, 1, 4, 6, 7, -5, math.MinInt64, math.MaxInt64} {
				// A vertex is known by its number, not by its id, nor by its place in the list.
				d := one(10, vert(5, 3, 4, 7))
				d.Faces[f].Tri.V[i] = v
				noFaces(t, d, 10)
			}
		}
	}
	noFaces(t, dump(10, nil, tri(0, 0, 0, off(0, 0), off(1, 0), off(0, 1))), 10)
}

// P18.2: without faces none, and true.
func TestFacesNone(t *testing.T) {
	faces(t, api.Dump{Side: 10}, 10)
	faces(t, api.Dump{Side: 30}, 10)
	faces(t, dump(30, []api.Vert{vert(0, 1, 1, 1), vert(1, 2, 2, 2)}), 10)
	faces(t, engine(t, 10, nil).Dump(), 10)
}

// P18.2: offs are by how many n a corner lies off the first square, wherever the dump says that a vertex lies: below the first square, in it, beyond it.
func TestFacesOutside(t *testing.T) {
	flat := func(a, b, c api.Off) api.Tri { return tri(0, 1, 2, a, b, c) }
	for _, c := range []struct {
		p    api.Point
		n    int64
		want api.Off
	}{
		{at(0, 0), 10, off(0, 0)}, {at(9, 9), 10, off(0, 0)}, {at(10, 9), 10, off(1, 0)}, {at(9, 10), 10, off(0, 1)},
		{at(19, 20), 10, off(1, 2)}, {at(-1, 0), 10, off(-1, 0)}, {at(0, -1), 10, off(0, -1)}, {at(-10, -11), 10, off(-1, -2)},
		{at(-20, 29), 10, off(-2, 2)}, {at(-19, -21), 10, off(-2, -3)}, {at(5, -3), 1, off(5, -3)},
		{at(math.MaxInt64, math.MinInt64), 1 << 62, off(1, -2)}, {at(-1, math.MaxInt64), math.MaxInt64, off(-1, 1)},
		{at(math.MinInt64, 1-math.MaxInt64), math.MaxInt64, off(-2, -1)}, {at(math.MinInt64, math.MaxInt64), 1, off(math.MinInt64, math.MaxInt64)},
	} {
		verts := []api.Vert{vert(3, 0, 0, 0), vert(4, c.p.X, c.p.Y, 1), vert(5, 0, 0, 2)}
		u := tri(3, 4, 5, off(0, 0), off(0, 0), off(0, 1))
		faces(t, dump(c.n, verts, u), c.n, flat(off(0, 0), c.want, off(0, 1)))
		if c.n <= math.MaxInt64/3 {
			// Of nine sheets one side is three n.
			faces(t, dump(3*c.n, verts, u), c.n, flat(off(0, 0), c.want, off(0, 3)))
		}
	}
	// The place and the off together.
	verts := []api.Vert{vert(0, -5, 12, 0), vert(1, 25, -31, 1), vert(2, 29, 30, 2)}
	u := tri(0, 1, 2, off(1, -1), off(0, 2), off(-3, 0))
	// -1 + 1, 1 - 1; 2 + 0, -4 + 2; 2 - 3, 3 + 0: the first one is not off.
	faces(t, dump(10, verts, u), 10, flat(off(0, 0), off(2, -2), off(-1, 3)))
	// -1 + 3, 1 - 3; 2 + 0, -4 + 6; 2 - 9, 3 + 0: less 2, -2.
	faces(t, dump(30, verts, u), 10, flat(off(0, 0), off(0, 4), off(-9, 5)))
}

// P18.2: each class once, in normal form and in order, however often, from whichever corner on and moved by whatever it is told, by whichever of the vertices of one id.
func TestFacesOnce(t *testing.T) {
	verts := []api.Vert{vert(0, 1, 1, -4), vert(1, 2, 5, 9), vert(2, 11, 1, -4), vert(3, -8, 5, 9), vert(4, 7, 8, -4)}
	a := tri(0, 1, 0, off(0, 0), off(0, 0), off(-1, 0))
	want := tri(-4, -4, 9, off(0, 0), off(1, 0), off(1, 0))
	same := []api.Tri{
		a, a, turned(a, 1), turned(a, 2), moved(a, off(3, -2)), moved(turned(a, 1), off(-7, 100)),
		tri(2, 1, 0, off(-1, 0), off(0, 0), off(-1, 0)),
		tri(2, 3, 2, off(4, 4), off(6, 4), off(3, 4)),
		// Another place, but the id and the offs are those.
		tri(4, 1, 4, off(0, 0), off(0, 0), off(-1, 0)),
	}
	faces(t, dump(10, verts, same...), 10, want)
	for _, u := range same {
		faces(t, dump(10, verts, u), 10, want)
	}
	// Turned the other way it is another class, and so is one whose corners lie otherwise to one another.
	other := tri(0, 0, 1, off(0, 0), off(-1, 0), off(0, 0))
	far := tri(0, 0, 1, off(0, 0), off(1, 0), off(1, 1))
	near := tri(1, 1, 1, off(0, 0), off(-1, 0), off(0, -1))
	faces(t, dump(10, verts, near, far, a, other, far, a), 10,
		tri(-4, -4, 9, off(0, 0), off(-1, 0), off(0, 0)), want, tri(-4, -4, 9, off(0, 0), off(1, 0), off(1, 1)), tri(9, 9, 9, off(0, 0), off(-1, 0), off(0, -1)))
	// With three times n as the side an off counts three times.
	faces(t, dump(30, verts, a), 10, tri(-4, -4, 9, off(0, 0), off(3, 0), off(3, 0)))
}

// P18.2: of vertices of one number the first one is taken.
func TestFacesOneNumber(t *testing.T) {
	verts := []api.Vert{vert(0, 1, 1, 5), vert(0, 12, 1, 6), vert(1, 3, 3, 7)}
	faces(t, dump(10, verts, tri(0, 1, 0, off(0, 0), off(0, 1), off(-1, 0))), 10, tri(5, 5, 7, off(0, 0), off(1, 0), off(1, 1)))
}

// P18.2: offs that are too great come modulo 2^64, as lift's do, and no call panics.
func TestFacesGreat(t *testing.T) {
	great := []int{math.MinInt64, math.MinInt64 + 1, -1 << 62, math.MinInt64 / 3, -1, 0, 1, math.MaxInt64 / 3, 1 << 62, math.MaxInt64 - 1, math.MaxInt64}
	r := rand.New(rand.NewSource(1))
	for range 3000 {
		one := func() int { return great[r.Intn(len(great))] }
		n := int64(one())
		verts := []api.Vert{vert(one(), int64(one()), int64(one()), one()), vert(one(), int64(one()), int64(one()), one())}
		v := func() int { return verts[r.Intn(2)].No }
		u := tri(v(), v(), v(), off(one(), one()), off(one(), one()), off(one(), one()))
		for _, side := range []int64{n, int64(uint64(n) * 3)} {
			holdFaces(t, dump(side, verts, u, turned(u, 1), moved(u, off(one(), one()))), n)
		}
	}
}

// P18.2, against the words: dumps of any kind.
func TestFacesRandom(t *testing.T) {
	r := rand.New(rand.NewSource(2))
	for range 20000 {
		n := 1 + r.Int63n(9)
		d := api.Dump{Side: n * (1 + 2*r.Int63n(2))}
		for range 1 + r.Intn(4) {
			d.Verts = append(d.Verts, vert(r.Intn(5), r.Int63n(61)-30, r.Int63n(61)-30, r.Intn(3)-1))
		}
		for range r.Intn(9) {
			o := func() api.Off { return off(r.Intn(3)-1, r.Intn(3)-1) }
			v := func() int { return d.Verts[r.Intn(len(d.Verts))].No }
			u := tri(v(), v(), v(), o(), o(), o())
			if r.Intn(40) == 0 {
				u.V[r.Intn(3)] = r.Intn(5)
			}
			d.Faces = append(d.Faces, api.Cell{No: r.Intn(9), Tri: u})
		}
		holdFaces(t, d, n)
	}
}

// P18.2: what engines lay out on one sheet, and on nine, is each class once.
func TestFacesSheets(t *testing.T) {
	r := rand.New(rand.NewSource(3))
	met := map[int]int{}
	for _, n := range []int64{1, 2, 3, 7, 40, 1000, maxN - 1, maxN} {
		for _, many := range []int{1, 2, 3, 5, 8, 13, 40, 100} {
			l := somePlaces(r, n, many)
			e := engine(t, n, l)
			met[e.Sheets()]++
			if got, ok := holdFaces(t, e.Dump(), n); !ok || len(got) != 2*len(l) {
				t.Fatalf("of %v, n %d: %v %v", l, n, got, ok)
			}
		}
	}
	if met[1] < 10 || met[3] < 10 {
		t.Error(met)
	}
}

// The answer is new memory, and the same each time.
func TestFacesAgain(t *testing.T) {
	r := rand.New(rand.NewSource(4))
	d := engine(t, 50, somePlaces(r, 50, 60)).Dump()
	first, _ := unfold.Faces(d, 50)
	kept := slices.Clone(first)
	for range 20 {
		again, ok := unfold.Faces(d, 50)
		if !ok || !slices.Equal(again, kept) {
			t.Fatal("another answer")
		}
		clear(again[:cap(again)])
		if !slices.Equal(first, kept) {
			t.Fatal("one list stands in another one's memory")
		}
	}
}
