package unfold_test

import (
	"cmp"
	"math/big"
	"math/rand"
	"slices"
	"testing"

	"zellige/api"
	"zellige/lift"
	"zellige/pdt"
	"zellige/tie"
	"zellige/unfold"
)

// maxN is the greatest side, written out apart from api.
const maxN = 1073741824

func at(x, y int64) api.Point {
	return api.Point{X: x, Y: y}
}

func off(x, y int) api.Off {
	return api.Off{X: x, Y: y}
}

func place(id int, x, y int64) api.Place {
	return api.Place{ID: id, At: at(x, y)}
}

func vert(no int, x, y int64, id int) api.Vert {
	return api.Vert{No: no, At: at(x, y), ID: id}
}

// tri is the face of three vertices with their offs.
func tri(a, b, c int, oa, ob, oc api.Off) api.Tri {
	return api.Tri{V: [3]int{a, b, c}, Off: [3]api.Off{oa, ob, oc}}
}

// dump is a mesh of that side, whose faces have the numbers 0 and on.
func dump(side int64, verts []api.Vert, faces ...api.Tri) api.Dump {
	d := api.Dump{Side: side, Verts: verts}
	for i, u := range faces {
		d.Faces = append(d.Faces, api.Cell{No: i, Tri: u})
	}
	return d
}

// moved is t by so many sides off.
func moved(t api.Tri, by api.Off) api.Tri {
	for i, o := range t.Off {
		t.Off[i] = off(o.X+by.X, o.Y+by.Y)
	}
	return t
}

// turned is t from its corner i on.
func turned(t api.Tri, i int) api.Tri {
	return tri(t.V[i], t.V[(i+1)%3], t.V[(i+2)%3], t.Off[i], t.Off[(i+1)%3], t.Off[(i+2)%3])
}

// cornerHome is t from its corner i on, moved so that this one is not off.
func cornerHome(t api.Tri, i int) api.Tri {
	u := turned(t, i)
	return moved(u, off(-u.Off[0].X, -u.Off[0].Y))
}

// numbersOf is a face's numbers in the order in which P14.1 asks for them.
func numbersOf(t api.Tri) []int {
	var list []int
	for i := range 3 {
		list = append(list, t.V[i], t.Off[i].X, t.Off[i].Y)
	}
	return list
}

func cmpTri(a, b api.Tri) int {
	return slices.Compare(numbersOf(a), numbersOf(b))
}

// normal is t's normal form by the words.
func normal(t api.Tri) api.Tri {
	return slices.MinFunc([]api.Tri{cornerHome(t, 0), cornerHome(t, 1), cornerHome(t, 2)}, cmpTri)
}

// tidy is the faces' normal forms, each once, in order.
func tidy(l []api.Tri) []api.Tri {
	var out []api.Tri
	for _, t := range l {
		out = append(out, normal(t))
	}
	slices.SortFunc(out, cmpTri)
	return slices.Compact(out)
}

// sidesOff is by how many n the number lies off the first square that lies so many sides off c, taken modulo 2^64.
func sidesOff(c int64, by int, side, n int64) int {
	b := new(big.Int).Mul(big.NewInt(int64(by)), big.NewInt(side))
	b.Add(b, big.NewInt(c))
	// Div goes down, as what it divides by is above nought.
	b.Div(b, big.NewInt(n))
	b.And(b, new(big.Int).SetUint64(1<<64-1))
	return int(b.Uint64())
}

// slowFaces is Faces by the words, each corner's place being reckoned in full.
func slowFaces(d api.Dump, n int64) ([]api.Tri, bool) {
	three := new(big.Int).Mul(big.NewInt(3), big.NewInt(n))
	if n < 1 || d.Side != n && big.NewInt(d.Side).Cmp(three) != 0 {
		return nil, false
	}
	var list []api.Tri
	for _, c := range d.Faces {
		u := c.Tri
		for i, no := range u.V {
			k := slices.IndexFunc(d.Verts, func(v api.Vert) bool { return v.No == no })
			if k < 0 {
				return nil, false
			}
			v, o := d.Verts[k], u.Off[i]
			u.V[i] = v.ID
			u.Off[i] = off(sidesOff(v.At.X, o.X, d.Side, n), sidesOff(v.At.Y, o.Y, d.Side, n))
		}
		list = append(list, u)
	}
	return tidy(list), true
}

// slowStar is Star by the words: one goes on from face to face till one is come to again.
func slowStar(l []api.Tri, id int) ([]api.Tri, bool) {
	var all []api.Tri
	for _, t := range l {
		for i := range 3 {
			if t.V[i] == id {
				all = append(all, cornerHome(t, i))
			}
		}
	}
	if len(all) == 0 {
		return nil, false
	}
	first := slices.Index(all, slices.MinFunc(all, cmpTri))
	var way []int
	for k := first; !slices.Contains(way, k); {
		way = append(way, k)
		last := all[k]
		k = slices.IndexFunc(all, func(u api.Tri) bool { return u.V[1] == last.V[2] && u.Off[1] == last.Off[2] })
		if k < 0 || k != first && slices.Contains(way, k) || k == first && len(way) < len(all) {
			return nil, false
		}
	}
	var out []api.Tri
	for _, k := range way {
		out = append(out, all[k])
	}
	return out, true
}

// spot is a place of a site: where it lies, and by how many sides off.
type spot struct {
	at  api.Point
	id  int
	off api.Off
}

// spots are all places of these sites by up to two sides off. No circle without any of a site's places within is wider than a square's diagonal, so that all corners of a face lie there, if one lies in the first square, and all places within its circle, or on it, do so, too.
func spots(l []api.Place, n int64) []spot {
	var all []spot
	for _, p := range l {
		for x := -2; x <= 2; x++ {
			for y := -2; y <= 2; y++ {
				all = append(all, spot{at(p.At.X+int64(x)*n, p.At.Y+int64(y)*n), p.ID, off(x, y)})
			}
		}
	}
	return all
}

// leftOf tells whether c lies to the left of the way from a to b.
func leftOf(a, b, c api.Point) bool {
	p := new(big.Int).Mul(big.NewInt(b.X-a.X), big.NewInt(c.Y-a.Y))
	q := new(big.Int).Mul(big.NewInt(b.Y-a.Y), big.NewInt(c.X-a.X))
	return p.Cmp(q) > 0
}

// triples is the classes of the Delaunay mesh of these sites by its words (P18.1): any three places that turn left, and that none of the others does away with.
func triples(l []api.Place, n int64) []api.Tri {
	all := spots(l, n)
	var list []api.Tri
	for _, p := range l {
		a := spot{at: p.At, id: p.ID}
		for _, b := range all {
			for _, c := range all {
				// Of each class it is enough to look at the face whose first corner stands ahead of the others, and lies in the first square.
				if lift.Cmp(a.at, b.at) < 0 && lift.Cmp(a.at, c.at) < 0 && isFace(a.at, b.at, c.at, all) {
					list = append(list, tri(a.id, b.id, c.id, a.off, b.off, c.off))
				}
			}
		}
	}
	return tidy(list)
}

// isFace tells whether the three turn left and none of all does away with them.
func isFace(a, b, c api.Point, all []spot) bool {
	return leftOf(a, b, c) && !slices.ContainsFunc(all, func(d spot) bool { return tie.Conflict(a, b, c, d.at) })
}

// isSet tells whether the places are those of different sites, with different ids, on a torus of side n.
func isSet(l []api.Place, n int64) bool {
	for i, p := range l {
		for _, q := range l[:i] {
			if p.ID == q.ID || p.At == q.At {
				return false
			}
		}
		if p.At.X < 0 || p.At.X >= n || p.At.Y < 0 || p.At.Y >= n {
			return false
		}
	}
	return 1 <= n && n <= maxN
}

// slowHolds is Holds by looking at all triples.
func slowHolds(l []api.Place, t []api.Tri, n int64) bool {
	return isSet(l, n) && slices.Equal(t, triples(l, n))
}

// shuffled is the faces in any order, from any corner on, moved anyhow.
func shuffled(r *rand.Rand, l []api.Tri) []api.Tri {
	var out []api.Tri
	for _, k := range r.Perm(len(l)) {
		out = append(out, moved(turned(l[k], r.Intn(3)), off(r.Intn(7)-3, r.Intn(7)-3)))
	}
	return out
}

// engine is one with these sites.
func engine(t testing.TB, n int64, l []api.Place) *pdt.Engine {
	t.Helper()
	e, err := pdt.Open(n, 1000000)
	if err != api.OK {
		t.Fatal(err)
	}
	if err := e.Set(l); err != api.OK {
		t.Fatalf("Set(%v): %d", l, err)
	}
	return e
}

// laid is the faces of an engine with these sites, that are to be told.
func laid(t testing.TB, n int64, l []api.Place) []api.Tri {
	t.Helper()
	faces, ok := unfold.Faces(engine(t, n, l).Dump(), n)
	if !ok || len(faces) != 2*len(l) {
		t.Fatalf("of %v, n %d: %v %v", l, n, faces, ok)
	}
	return faces
}

// somePlaces are so many places of different sites, at most as many as there are, with different ids.
func somePlaces(r *rand.Rand, n int64, many int) []api.Place {
	var l []api.Place
	taken := map[api.Point]bool{}
	ids := r.Perm(2 * many)
	for len(l) < many && int64(len(l)) < n*min(n, 1<<20) {
		p := at(r.Int63n(n), r.Int63n(n))
		if !taken[p] {
			taken[p] = true
			l = append(l, api.Place{ID: ids[len(l)], At: p})
		}
	}
	return l
}

// byID is the places by ids.
func byID(l []api.Place) []api.Place {
	l = slices.Clone(l)
	slices.SortFunc(l, func(a, b api.Place) int { return cmp.Compare(a.ID, b.ID) })
	return l
}

// holdFaces holds Faces against the words, and answers it.
func holdFaces(t testing.TB, d api.Dump, n int64) ([]api.Tri, bool) {
	t.Helper()
	kept := api.Dump{Side: d.Side, Verts: slices.Clone(d.Verts), Faces: slices.Clone(d.Faces)}
	want, ok := slowFaces(d, n)
	got, ok2 := unfold.Faces(d, n)
	if ok2 != ok || !slices.Equal(got, want) {
		t.Fatalf("Faces(%v, %d): %v %v, not %v %v", d, n, got, ok2, want, ok)
	}
	if !slices.Equal(d.Verts, kept.Verts) || !slices.Equal(d.Faces, kept.Faces) {
		t.Fatalf("Faces(%v, %d) left %v", kept, n, d)
	}
	return got, ok
}

// holdStar holds Star against the words, and answers it.
func holdStar(t testing.TB, l []api.Tri, id int) ([]api.Tri, bool) {
	t.Helper()
	kept := slices.Clone(l)
	want, ok := slowStar(l, id)
	got, ok2 := unfold.Star(l, id)
	if ok2 != ok || !slices.Equal(got, want) {
		t.Fatalf("Star(%v, %d): %v %v, not %v %v", l, id, got, ok2, want, ok)
	}
	if !slices.Equal(l, kept) {
		t.Fatalf("Star(%v, %d) left %v", kept, id, l)
	}
	return got, ok
}

// holds asks Holds, which is to leave what it is handed.
func holds(t testing.TB, l []api.Place, f []api.Tri, n int64) bool {
	t.Helper()
	keptL, keptF := slices.Clone(l), slices.Clone(f)
	ok := unfold.Holds(l, f, n)
	if !slices.Equal(l, keptL) || !slices.Equal(f, keptF) {
		t.Fatalf("Holds(%v, %v, %d) left %v %v", keptL, keptF, n, l, f)
	}
	return ok
}
