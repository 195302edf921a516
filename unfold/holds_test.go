package unfold_test

import (
	"math"
	"math/rand"
	"slices"
	"testing"

	"zellige/api"
	"zellige/unfold"
)

// ask holds Holds against what is to be told.
func ask(t *testing.T, l []api.Place, f []api.Tri, n int64, want bool) {
	t.Helper()
	if got := holds(t, l, f, n); got != want {
		t.Fatalf("Holds(%v, %v, %d): %v", l, f, n, got)
	}
}

// thrice is the two faces of one site with that id.
func thrice(id int) []api.Tri {
	return []api.Tri{
		tri(id, id, id, off(0, 0), off(-1, 0), off(0, -1)),
		tri(id, id, id, off(0, 0), off(-1, 1), off(-1, 0)),
	}
}

// some is five sites that lie anyhow, and their faces.
func some(t *testing.T) ([]api.Place, []api.Tri) {
	l := []api.Place{place(0, 1, 2), place(4, 13, 5), place(2, 7, 16), place(9, 18, 19), place(3, 10, 9)}
	faces := triples(l, 20)
	ask(t, l, faces, 20, true)
	return l, faces
}

// P18.4: no places and no faces; the one without the other.
func TestHoldsNone(t *testing.T) {
	for _, n := range []int64{1, 2, 10, maxN - 1, maxN} {
		ask(t, nil, nil, n, true)
		ask(t, []api.Place{}, []api.Tri{}, n, true)
		ask(t, nil, thrice(0), n, false)
		ask(t, nil, thrice(0)[:1], n, false)
		ask(t, []api.Place{place(0, 0, 0)}, nil, n, false)
	}
}

// P18.4: n is from 1 to MaxN.
func TestHoldsSide(t *testing.T) {
	if api.MaxN != maxN {
		t.Fatal("MaxN is", api.MaxN)
	}
	for _, n := range []int64{math.MinInt64, -maxN, -10, -1, 0, maxN + 1, 3 * maxN, 1 << 40, 1 << 41, math.MaxInt64} {
		ask(t, nil, nil, n, false)
		ask(t, []api.Place{place(0, 0, 0)}, thrice(0), n, false)
	}
	for _, n := range []int64{1, 2, 3, 10, maxN - 1, maxN} {
		ask(t, []api.Place{place(0, 0, 0)}, thrice(0), n, true)
		ask(t, []api.Place{place(5, n-1, n-1)}, thrice(5), n, true)
		ask(t, []api.Place{place(-5, n-1, 0)}, thrice(-5), n, true)
	}
	// Another side makes another mesh of the same sites.
	l, faces := some(t)
	ask(t, l, faces, 19, false)
	ask(t, l, faces, 21, slowHolds(l, faces, 21))
	ask(t, l, faces, 200, false)
}

// P18.4: ids and sites are all different, and the sites are of the first square.
func TestHoldsPlaces(t *testing.T) {
	l, faces := some(t)
	change := func(i int, p api.Place) []api.Place {
		c := slices.Clone(l)
		c[i] = p
		return c
	}
	for i, p := range l {
		// Moved by whole sides the site has the same mesh, all but the square being as it was.
		for _, far := range []int64{-20, 20} {
			ask(t, change(i, place(p.ID, p.At.X+far, p.At.Y)), faces, 20, false)
			ask(t, change(i, place(p.ID, p.At.X, p.At.Y+far)), faces, 20, false)
		}
		for k, q := range l {
			if i != k {
				ask(t, change(i, api.Place{ID: q.ID, At: p.At}), faces, 20, false)
				ask(t, change(i, api.Place{ID: p.ID, At: q.At}), faces, 20, false)
				ask(t, change(i, q), faces, 20, false)
			}
		}
		ask(t, change(i, place(77, p.At.X, p.At.Y)), faces, 20, false)
		ask(t, slices.Delete(slices.Clone(l), i, i+1), faces, 20, false)
		ask(t, append(slices.Clone(l), p), faces, 20, false)
	}
	ask(t, append(slices.Clone(l), place(1, 5, 5)), faces, 20, false)
	// With as many faces as places ask for.
	two := append(thrice(0), thrice(1)...)
	ask(t, []api.Place{place(0, 0, 0), place(1, 0, 0)}, two, 2, false)
	ask(t, []api.Place{place(0, 0, 0), place(0, 1, 1)}, two, 2, false)
	ask(t, []api.Place{place(0, 0, 0), place(0, 0, 0)}, append(thrice(0), thrice(0)...), 2, false)
	for _, c := range [][2]int64{{-1, 0}, {0, -1}, {10, 0}, {0, 10}, {-10, -10}, {30, 5}, {math.MinInt64, 0}, {0, math.MaxInt64}, {1 << 40, 1 << 40}} {
		ask(t, []api.Place{place(0, c[0], c[1])}, thrice(0), 10, false)
	}
	// In whichever order the places are told.
	r := rand.New(rand.NewSource(1))
	for range 20 {
		r.Shuffle(len(l), func(i, k int) { l[i], l[k] = l[k], l[i] })
		ask(t, l, faces, 20, true)
	}
}

// P18.4: ids may be any.
func TestHoldsIDs(t *testing.T) {
	ids := []int{math.MinInt64, math.MaxInt64, -1, 0, 1 << 40}
	r := rand.New(rand.NewSource(2))
	for range 30 {
		l := somePlaces(r, 9, 5)
		for i := range l {
			l[i].ID = ids[i]
		}
		faces := triples(l, 9)
		ask(t, l, faces, 9, true)
		l[0].ID, l[1].ID = l[1].ID, l[0].ID
		ask(t, l, faces, 9, slowHolds(l, faces, 9))
	}
}

// P18.4: t rises, each face told once, in normal form.
func TestHoldsOrder(t *testing.T) {
	l, faces := some(t)
	for i := range faces {
		for k := range faces {
			other := slices.Clone(faces)
			other[i], other[k] = other[k], other[i]
			ask(t, l, other, 20, i == k)
			other = slices.Clone(faces)
			other[i] = other[k]
			ask(t, l, other, 20, i == k)
			slices.SortFunc(other, cmpTri)
			ask(t, l, other, 20, i == k)
		}
		for _, u := range []api.Tri{turned(faces[i], 1), turned(faces[i], 2), cornerHome(faces[i], 1), cornerHome(faces[i], 2), moved(faces[i], off(1, 0)), moved(faces[i], off(0, -1))} {
			other := slices.Clone(faces)
			other[i] = u
			ask(t, l, other, 20, false)
			slices.SortFunc(other, cmpTri)
			ask(t, l, other, 20, false)
		}
	}
}

// P18.4: two faces of each place: none too few, none too many.
func TestHoldsHowMany(t *testing.T) {
	l, faces := some(t)
	for i := range faces {
		ask(t, l, slices.Delete(slices.Clone(faces), i, i+1), 20, false)
		ask(t, l, slices.Insert(slices.Clone(faces), i, faces[i]), 20, false)
		for _, p := range l {
			// One more, at its place in the order.
			more := append(slices.Clone(faces), tri(p.ID, p.ID, p.ID, off(0, 0), off(-1, 0), off(0, -1)))
			slices.SortFunc(more, cmpTri)
			ask(t, l, more, 20, false)
		}
		ask(t, l, faces[:i], 20, false)
	}
}

// P18.4: of known ids, that all turn left.
func TestHoldsFace(t *testing.T) {
	l, faces := some(t)
	for i := range faces {
		for k := range 3 {
			var others []api.Tri
			for _, v := range []int{0, 2, 3, 4, 9, 1, 5, 10, -1, math.MaxInt64} {
				u := faces[i]
				u.V[k] = v
				others = append(others, u)
			}
			for _, o := range []api.Off{off(1, 0), off(-1, 0), off(0, 1), off(0, -1), off(3, 3), off(math.MaxInt64, 0), off(0, math.MinInt64), off(1<<36, 1<<36), off(1<<40, 0)} {
				u := faces[i]
				u.Off[k] = off(u.Off[k].X+o.X, u.Off[k].Y+o.Y)
				others = append(others, u)
			}
			u := faces[i]
			m := (k + 1) % 3
			u.V[k], u.V[m], u.Off[k], u.Off[m] = u.V[m], u.V[k], u.Off[m], u.Off[k]
			others = append(others, u)
			for _, u := range others {
				other := slices.Clone(faces)
				other[i] = normal(u)
				slices.SortFunc(other, cmpTri)
				ask(t, l, other, 20, slices.Equal(other, faces))
			}
		}
	}
	// All of them turned the other way, and the plane looked at in a mirror.
	var right []api.Tri
	for _, u := range faces {
		right = append(right, tri(u.V[0], u.V[2], u.V[1], u.Off[0], u.Off[2], u.Off[1]))
	}
	ask(t, l, tidy(right), 20, false)
	// On one line.
	ask(t, []api.Place{place(0, 0, 0)}, tidy([]api.Tri{tri(0, 0, 0, off(0, 0), off(1, 0), off(2, 0)), tri(0, 0, 0, off(0, 0), off(2, 0), off(1, 0))}), 5, false)
	ask(t, []api.Place{place(0, 0, 0)}, tidy([]api.Tri{tri(0, 0, 0, off(0, 0), off(0, 0), off(0, 0)), tri(0, 0, 0, off(0, 0), off(1, 0), off(0, 1))}), 5, false)
}

// lattice is two faces of one site that fit together to a mesh of the points which lie by u and v off it.
func lattice(u, v api.Off) []api.Tri {
	both := off(u.X+v.X, u.Y+v.Y)
	return tidy([]api.Tri{tri(0, 0, 0, off(0, 0), u, both), tri(0, 0, 0, off(0, 0), both, v)})
}

// P18.4: all areas together are the torus's. These are of the Delaunay mesh of too few points, and so all but that is as it is to be.
func TestHoldsAreas(t *testing.T) {
	l := []api.Place{place(0, 0, 0)}
	for _, n := range []int64{1, 7, maxN} {
		ask(t, l, tidy([]api.Tri{tri(0, 0, 0, off(0, 0), off(2, 0), off(0, 1)), tri(0, 0, 0, off(2, 0), off(2, 1), off(0, 1))}), n, false)
		ask(t, l, tidy([]api.Tri{tri(0, 0, 0, off(0, 0), off(1, 0), off(0, 2)), tri(0, 0, 0, off(1, 0), off(1, 2), off(0, 2))}), n, false)
		ask(t, l, tidy([]api.Tri{tri(0, 0, 0, off(0, 0), off(2, 0), off(0, 2)), tri(0, 0, 0, off(2, 0), off(2, 2), off(0, 2))}), n, false)
		// Of the diagonals both ways.
		ask(t, l, lattice(off(1, 1), off(-1, 1)), n, false)
		ask(t, l, tidy([]api.Tri{tri(0, 0, 0, off(0, 0), off(1, 1), off(-1, 1)), tri(0, 0, 0, off(1, 1), off(0, 2), off(-1, 1))}), n, false)
	}
	// Whose area, taken modulo 2^64, would be that of the torus.
	for _, f := range [][]api.Tri{lattice(off(1, 4096), off(-4096, 1)), lattice(off(4096, -1), off(1, 4096)), lattice(off(4096, -1), off(4097, 4095))} {
		ask(t, l, f, 1<<20, false)
	}
}

// P18.4: across each edge there is just one face. Of these all turn left, and all areas together are the torus's.
func TestHoldsEdges(t *testing.T) {
	one := []api.Place{place(0, 0, 0)}
	for _, n := range []int64{1, 5, maxN} {
		// An edge told twice, and so none across.
		ask(t, one, tidy([]api.Tri{tri(0, 0, 0, off(0, 0), off(1, 0), off(0, 1)), tri(0, 0, 0, off(0, 0), off(1, 0), off(1, 1))}), n, false)
		ask(t, one, tidy([]api.Tri{tri(0, 0, 0, off(0, 0), off(1, 0), off(0, 1)), tri(0, 0, 0, off(1, 0), off(2, 1), off(1, 1))}), n, false)
	}
	for _, c := range []struct {
		l []api.Place
		n int64
		f []api.Tri
	}{
		{[]api.Place{place(0, 0, 0), place(1, 1, 0)}, 2, []api.Tri{
			tri(0, 0, 1, off(0, 0), off(-1, -1), off(-1, -1)), tri(0, 0, 1, off(0, 0), off(-1, -1), off(0, 0)),
			tri(0, 0, 1, off(0, 0), off(-1, -1), off(1, 1)), tri(0, 0, 1, off(0, 0), off(-1, 1), off(-1, 0))}},
		{[]api.Place{place(0, 0, 0), place(1, 1, 1)}, 2, []api.Tri{
			tri(0, 0, 1, off(0, 0), off(-1, 0), off(-1, -1)), tri(0, 0, 1, off(0, 0), off(-1, 0), off(0, -1)),
			tri(0, 0, 1, off(0, 0), off(-1, 0), off(1, -1)), tri(0, 0, 1, off(0, 0), off(0, -1), off(0, 0))}},
		{[]api.Place{place(0, 0, 0), place(1, 1, 1)}, 3, []api.Tri{
			tri(0, 0, 0, off(0, 0), off(-1, -1), off(0, -1)), tri(0, 0, 1, off(0, 0), off(-1, 1), off(-1, 0)),
			tri(0, 0, 1, off(0, 0), off(-1, 1), off(0, -1)), tri(0, 0, 1, off(0, 0), off(0, -1), off(0, 0))}},
	} {
		ask(t, c.l, c.f, c.n, false)
		ask(t, c.l, triples(c.l, c.n), c.n, true)
	}
	// An edge across which there are two faces: nine sites' mesh, laid over itself.
	l := gridPlaces(3, 10)
	faces := triples(l, 30)
	for i := range faces {
		for k := range faces {
			// The one that lies across, moved by a third of the torus, lies twice there.
			other := slices.Clone(faces)
			u := faces[k]
			for c := range 3 {
				to := u.V[c] + 3
				u.V[c], u.Off[c] = to%9, off(u.Off[c].X+to/9, u.Off[c].Y)
			}
			other[i] = u
			other = tidy(other)
			ask(t, l, other, 30, slices.Equal(other, faces))
		}
	}
}

// gridPlaces is k by k sites, so far from one another, from left to right and in it upwards.
func gridPlaces(k int, gap int64) []api.Place {
	var l []api.Place
	for i := range k {
		for j := range k {
			l = append(l, place(len(l), int64(i)*gap, int64(j)*gap))
		}
	}
	return l
}

// P18.4: no third corner does away with the face on this side of an edge: of one site only the square's diagonal that goes from right below to left above is told, nothing longer.
func TestHoldsConflict(t *testing.T) {
	l := []api.Place{place(0, 0, 0)}
	const end = 1 << 40
	for _, n := range []int64{1, 2, 10, maxN} {
		for k := -5; k <= 5; k++ {
			for _, f := range [][]api.Tri{
				lattice(off(1, 0), off(k, 1)), lattice(off(0, 1), off(-1, k)), lattice(off(1, k), off(0, 1)),
			} {
				ask(t, l, f, n, slices.Equal(f, thrice(0)))
			}
		}
	}
	// So far that a corner across can't be reckoned with; and so far that a face's own can't.
	for k := range 6 {
		ask(t, l, lattice(off(1, 0), off(end-k, 1)), 1, false)
		ask(t, l, lattice(off(1, 0), off(k-end, 1)), 1, false)
		ask(t, l, lattice(off(0, -1), off(1, end-k)), 1, false)
		ask(t, l, lattice(off(0, 1), off(-1, end-k)), 1, false)
	}
}

// flips tells, of a list that is to be told, those of other faces about each edge's two: which fit together, but one corner of which does away with the other face.
func flips(faces []api.Tri) [][]api.Tri {
	var all [][]api.Tri
	for i, u := range faces {
		for a := range 3 {
			for k, w := range faces {
				for b := range 3 {
					u, w := cornerHome(u, a), cornerHome(w, b)
					back := off(-w.Off[1].X, -w.Off[1].Y)
					if i == k || u.V[0] != w.V[1] || u.V[1] != w.V[0] || u.Off[1] != back {
						continue
					}
					w = moved(w, back)
					other := slices.Clone(faces)
					other[i] = tri(u.V[0], w.V[2], u.V[2], u.Off[0], w.Off[2], u.Off[2])
					other[k] = tri(w.V[0], u.V[2], w.V[2], w.Off[0], u.Off[2], w.Off[2])
					all = append(all, tidy(other))
				}
			}
		}
	}
	return all
}

// P18.4: an edge that was flipped: the faces fit together, wherever they turn left, but they are not the mesh.
func TestHoldsFlipped(t *testing.T) {
	r := rand.New(rand.NewSource(3))
	for range 40 {
		n := 2 + r.Int63n(50)
		l := somePlaces(r, n, 1+r.Intn(12))
		faces := laid(t, n, l)
		ask(t, l, faces, n, true)
		list := flips(faces)
		if len(list) != 6*len(l) {
			t.Fatal(len(list), "flips of", len(l), "sites")
		}
		for _, other := range list {
			ask(t, l, other, n, false)
		}
	}
}

// P18.4: ties are broken by the points' order. Of a grid each square may have either diagonal; but only one choice is the mesh.
func TestHoldsTies(t *testing.T) {
	for _, k := range []int{1, 2, 3} {
		l := gridPlaces(k, 5)
		n := int64(k) * 5
		met := 0
		for choice := range 1 << (k * k) {
			var f []api.Tri
			for i := range k {
				for j := range k {
					f = append(f, squareFaces(k, i, j, choice>>(k*i+j)&1 == 1)...)
				}
			}
			if holds(t, l, tidy(f), n) {
				met++
				if !slices.Equal(tidy(f), triples(l, n)) {
					t.Fatal(f)
				}
			}
		}
		if met != 1 {
			t.Fatal(k, met)
		}
	}
	ask(t, []api.Place{place(0, 0, 0)}, lattice(off(1, 0), off(0, 1)), 5, false)
}

// squareFaces is the two faces of a square of the grid of k by k sites, whose diagonal goes down to the right or up.
func squareFaces(k, i, j int, down bool) []api.Tri {
	corner := func(x, y int) (int, api.Off) { return x%k*k + y%k, off(x/k, y/k) }
	a, oa := corner(i, j)
	b, ob := corner(i+1, j)
	c, oc := corner(i+1, j+1)
	d, od := corner(i, j+1)
	if down {
		return []api.Tri{tri(a, b, d, oa, ob, od), tri(b, c, d, ob, oc, od)}
	}
	return []api.Tri{tri(a, b, c, oa, ob, oc), tri(a, c, d, oa, oc, od)}
}

// leftFaces is all faces in normal form whose corners lie by up to so many sides off, and turn left.
func leftFaces(l []api.Place, n int64, far int) []api.Tri {
	var list []api.Tri
	all := slices.DeleteFunc(spots(l, n), func(s spot) bool { return max(s.off.X, -s.off.X, s.off.Y, -s.off.Y) > far })
	for _, p := range l {
		for _, b := range all {
			for _, c := range all {
				u := tri(p.ID, b.id, c.id, off(0, 0), b.off, c.off)
				if u == normal(u) && leftOf(p.At, b.at, c.at) {
					list = append(list, u)
				}
			}
		}
	}
	slices.SortFunc(list, cmpTri)
	return list
}

// P18.4: of one site, of all lists of two faces that reach no farther than two sides, one alone is told.
func TestHoldsAllOfOne(t *testing.T) {
	for _, n := range []int64{1, 4, maxN} {
		l := []api.Place{place(0, n/2, n-1)}
		list := leftFaces(l, n, 2)
		met := 0
		for _, u := range list {
			for _, v := range list {
				f := []api.Tri{u, v}
				if unfold.Holds(l, f, n) {
					met++
					if want := triples(l, n); !slices.Equal(f, want) {
						t.Fatal(f, want)
					}
				}
			}
		}
		if met != 1 {
			t.Fatal(len(list), met)
		}
	}
}

// P18.4: of two sites, of all lists of four faces that reach no farther than a side, one alone is told, and that is the one which all triples tell.
func TestHoldsAllOfTwo(t *testing.T) {
	for _, second := range []api.Point{at(1, 0), at(1, 1), at(0, 1)} {
		l := []api.Place{place(0, 0, 0), {ID: 1, At: second}}
		want := triples(l, 2)
		list := leftFaces(l, 2, 1)
		met := 0
		for i := range list {
			for j := range i {
				for k := range j {
					for m := range k {
						f := []api.Tri{list[m], list[k], list[j], list[i]}
						if unfold.Holds(l, f, 2) {
							met++
							if !slices.Equal(f, want) {
								t.Fatal(l, f, want)
							}
						}
					}
				}
			}
		}
		if met != 1 {
			t.Fatal(len(list), met)
		}
	}
}

// change is the faces, of which one or two things are others, as they come or tidied up.
func change(r *rand.Rand, l []api.Place, faces []api.Tri) []api.Tri {
	f := slices.Clone(faces)
	for range 1 + r.Intn(2) {
		if len(f) == 0 {
			return f
		}
		i, k, c := r.Intn(len(f)), r.Intn(len(f)), r.Intn(3)
		switch r.Intn(8) {
		case 0:
			f[i].V[c] = l[r.Intn(len(l))].ID
		case 1:
			f[i].Off[c] = off(f[i].Off[c].X+r.Intn(3)-1, f[i].Off[c].Y+r.Intn(3)-1)
		case 2:
			f[i], f[k] = f[k], f[i]
		case 3:
			f[i] = f[k]
		case 4:
			f[i] = cornerHome(f[i], c)
		case 5:
			f = slices.Delete(f, i, i+1)
		case 6:
			f = slices.Insert(f, k, f[i])
		case 7:
			if list := flips(tidy(f)); len(list) > 0 {
				f = list[r.Intn(len(list))]
			}
		}
	}
	if r.Intn(2) == 0 {
		return tidy(f)
	}
	return f
}

// P18.4: Holds is true just where the faces are those found by looking at all triples.
func TestHoldsTriples(t *testing.T) {
	r := rand.New(rand.NewSource(4))
	met := [2]int{}
	for range 150 {
		n := []int64{1, 2, 3, 4, 7, 20, 1000, maxN}[r.Intn(8)]
		l := somePlaces(r, n, 1+r.Intn(5))
		want := triples(l, n)
		ask(t, l, want, n, true)
		for range 60 {
			f := change(r, l, want)
			same := slices.Equal(f, want)
			ask(t, l, f, n, same)
			if same {
				met[1]++
			} else {
				met[0]++
			}
		}
		// Of other places.
		other := slices.Clone(l)
		i, k := r.Intn(len(l)), r.Intn(len(l))
		switch r.Intn(3) {
		case 0:
			other[i].At = at(r.Int63n(n), r.Int63n(n))
		case 1:
			other[i].At, other[k].At = other[k].At, other[i].At
		case 2:
			other[i].ID = r.Intn(12)
		}
		ask(t, other, want, n, slowHolds(other, want, n))
	}
	if min(met[0], met[1]) < 100 {
		t.Error(met)
	}
}

// P18.5: of an engine's sites and Dump, Holds of Faces is true, and they are those found by looking at all triples.
func TestHoldsEngine(t *testing.T) {
	r := rand.New(rand.NewSource(5))
	for _, n := range []int64{1, 2, 3, 4, 5, 8, 60, 5000, maxN - 1, maxN} {
		for _, many := range []int{0, 1, 2, 3, 4, 6} {
			l := somePlaces(r, n, many)
			e := engine(t, n, l)
			faces, ok := holdFaces(t, e.Dump(), n)
			if !ok || !slices.Equal(faces, triples(l, n)) || !slices.Equal(e.Sites(), byID(l)) {
				t.Fatalf("of %v, n %d: %v", l, n, faces)
			}
			ask(t, e.Sites(), faces, n, true)
		}
		for _, many := range []int{20, 100, 700} {
			l := somePlaces(r, n, many)
			e := engine(t, n, l)
			for range 30 {
				e.Remove(r.Intn(2 * many))
				e.Insert(at(r.Int63n(n), r.Int63n(n)))
				e.Move(r.Intn(2*many), at(r.Int63n(n), r.Int63n(n)))
			}
			faces, ok := unfold.Faces(e.Dump(), n)
			if !ok {
				t.Fatal(n, many)
			}
			ask(t, e.Sites(), faces, n, true)
		}
	}
}

// P18.5: of full squares, each site of which there is, on tori of small sides.
func TestHoldsFull(t *testing.T) {
	for k := 1; k <= 20; k++ {
		l := gridPlaces(k, 1)
		ask(t, l, laid(t, int64(k), l), int64(k), true)
	}
}

// The same is told each time.
func TestHoldsAgain(t *testing.T) {
	l := somePlaces(rand.New(rand.NewSource(6)), 50, 40)
	faces := laid(t, 50, l)
	wrong := flips(faces)[0]
	for range 20 {
		ask(t, l, faces, 50, true)
		ask(t, l, wrong, 50, false)
	}
}

// FuzzAll makes sites, and faces that are changed, of any numbers, and holds all that is told of them against the words.
func FuzzAll(f *testing.F) {
	f.Add(uint8(10), []byte{1, 2, 3, 4}, int64(1))
	f.Add(uint8(2), []byte{0, 0, 0, 1, 1, 0, 1, 1}, int64(2))
	f.Add(uint8(255), []byte{7, 200, 100, 3, 9, 9, 250, 250, 1, 128}, int64(3))
	f.Fuzz(func(t *testing.T, side uint8, numbers []byte, seed int64) {
		n := int64(max(side, 1))
		var l []api.Place
		for i := 0; i+1 < len(numbers) && i < 12; i += 2 {
			p := at(int64(numbers[i])%n, int64(numbers[i+1])%n)
			if !slices.ContainsFunc(l, func(q api.Place) bool { return q.At == p }) {
				l = append(l, api.Place{ID: len(l), At: p})
			}
		}
		d := engine(t, n, l).Dump()
		faces, ok := holdFaces(t, d, n)
		if want := triples(l, n); !ok || !slices.Equal(faces, want) {
			t.Fatalf("of %v, n %d: %v, not %v", l, n, faces, want)
		}
		ask(t, l, faces, n, true)
		r := rand.New(rand.NewSource(seed))
		for range 20 {
			other := change(r, l, faces)
			ask(t, l, other, n, slices.Equal(other, faces))
			holdStar(t, other, r.Intn(len(l)+1))
		}
		for _, p := range l {
			if ring, ok := holdStar(t, faces, p.ID); !ok {
				t.Fatal(ring)
			}
		}
	})
}
