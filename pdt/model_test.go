package pdt_test

import (
	"cmp"
	"math/big"
	"math/rand"
	"slices"
	"strconv"
	"testing"

	"zellige/api"
	"zellige/lift"
	"zellige/mesh"
	"zellige/pdt"
	"zellige/tie"
)

// The ends of what can be, written out apart from api.
const (
	maxN = 1073741824
	maxM = 16777216
)

func at(x, y int64) api.Point {
	return api.Point{X: x, Y: y}
}

func place(id int, x, y int64) api.Place {
	return api.Place{ID: id, At: at(x, y)}
}

// open is an engine that there is to be.
func open(t testing.TB, n int64, m int) *pdt.Engine {
	t.Helper()
	e, err := pdt.Open(n, m)
	if err != api.OK || e == nil {
		t.Fatalf("Open(%d, %d): %d", n, m, err)
	}
	return e
}

// of is an engine with these sites, put by one Set.
func of(t testing.TB, n int64, m int, l ...api.Place) *pdt.Engine {
	t.Helper()
	e := open(t, n, m)
	if err := e.Set(l); err != api.OK {
		t.Fatalf("Set(%v): %d", l, err)
	}
	return e
}

// numbered are these sites with the ids 0 and on.
func numbered(sites []api.Point) []api.Place {
	var l []api.Place
	for id, p := range sites {
		l = append(l, api.Place{ID: id, At: p})
	}
	return l
}

// byID is the places by ids.
func byID(l []api.Place) []api.Place {
	l = slices.Clone(l)
	slices.SortFunc(l, func(a, b api.Place) int { return a.ID - b.ID })
	return l
}

// corner is a vertex of a face: where it lies, and its site's id.
type corner struct {
	at api.Point
	id int
}

func cmpCorner(a, b corner) int {
	return cmp.Or(lift.Cmp(a.at, b.at), cmp.Compare(a.id, b.id))
}

// face is a face over a torus, however it is told: its corners, turning left, moved by whole sides so that the first one lies in the first square, and from the corner on that makes it the least.
type face [3]corner

func cmpFace(a, b face) int {
	return cmp.Or(cmpCorner(a[0], b[0]), cmpCorner(a[1], b[1]), cmpCorner(a[2], b[2]))
}

// homeOf is by how many sides p lies off the first square.
func homeOf(p api.Point, side int64) (int64, int64) {
	down := func(c int64) int64 {
		q := c / side
		if q*side > c {
			q--
		}
		return q
	}
	return down(p.X), down(p.Y)
}

func faceOf(c [3]corner, side int64) face {
	var all []face
	for i := range 3 {
		right, up := homeOf(c[i].at, side)
		var f face
		for k := range 3 {
			d := c[(i+k)%3]
			f[k] = corner{at(d.at.X-right*side, d.at.Y-up*side), d.id}
		}
		all = append(all, f)
	}
	return slices.MinFunc(all, cmpFace)
}

// told is what Sites, Sheets and Dump tell, but for numbers and how faces are moved.
type told struct {
	sites  []api.Place
	sheets int
	side   int64
	verts  []corner
	faces  []face
}

func same(a, b told) bool {
	return slices.Equal(a.sites, b.sites) && a.sheets == b.sheets && a.side == b.side && slices.Equal(a.verts, b.verts) && slices.Equal(a.faces, b.faces)
}

// tellsOf is what the engine tells, whose numbers all fit together.
func tellsOf(t testing.TB, e *pdt.Engine) told {
	t.Helper()
	d := e.Dump()
	w := told{sites: e.Sites(), sheets: e.Sheets(), side: d.Side}
	verts := map[int]api.Vert{}
	for i, v := range d.Verts {
		if i > 0 && d.Verts[i-1].No >= v.No {
			t.Fatalf("vertices don't rise: %v", d)
		}
		verts[v.No] = v
		w.verts = append(w.verts, corner{v.At, v.ID})
	}
	for i, f := range d.Faces {
		if i > 0 && d.Faces[i-1].No >= f.No {
			t.Fatalf("faces don't rise: %v", d)
		}
		var c [3]corner
		for k, n := range f.Tri.V {
			v, ok := verts[n]
			if !ok {
				t.Fatalf("a face has no vertex %d: %v", n, d)
			}
			o := f.Tri.Off[k]
			c[k] = corner{at(v.At.X+int64(o.X)*d.Side, v.At.Y+int64(o.Y)*d.Side), v.ID}
		}
		w.faces = append(w.faces, faceOf(c, d.Side))
	}
	slices.SortFunc(w.verts, cmpCorner)
	slices.SortFunc(w.faces, cmpFace)
	return w
}

// far2 is the square of how far p is from a.
func far2(a, p api.Point) *big.Int {
	x, y := big.NewInt(p.X-a.X), big.NewInt(p.Y-a.Y)
	return x.Add(x.Mul(x, x), y.Mul(y, y))
}

// area2 is twice the area of the triangle.
func area2(a, b, c api.Point) *big.Int {
	p := new(big.Int).Mul(big.NewInt(b.X-a.X), big.NewInt(c.Y-a.Y))
	q := new(big.Int).Mul(big.NewInt(b.Y-a.Y), big.NewInt(c.X-a.X))
	return p.Sub(p, q)
}

// reach is -1, 0, 1 for a circle whose diameter is below, at, above half of n: the radius is the sides' product, divided by four times the area.
func reach(f face, n int64) int {
	a, b, c := f[0].at, f[1].at, f[2].at
	sides := new(big.Int).Mul(far2(a, b), far2(b, c))
	sides.Mul(sides, far2(c, a)).Mul(sides, big.NewInt(4))
	r := new(big.Int).Mul(area2(a, b, c), big.NewInt(n))
	return sides.Cmp(r.Mul(r, r))
}

// spots are all places of these sites by up to so many sides off.
func spots(l []api.Place, n int64, sides int) []corner {
	var all []corner
	for _, p := range l {
		for _, q := range lift.Window(p.At, n, sides) {
			all = append(all, corner{q, p.ID})
		}
	}
	return all
}

// wrap are the faces of the Delaunay mesh over the torus of side n: from an edge that is in it, from a site to the nearest place, one goes on to the third corner of each edge's face, and so from edge to edge.
// No circle without any of a site's places within is wider than a square's diagonal, so that all corners of a face lie by at most two sides off, if one lies in the first square.
func wrap(t testing.TB, l []api.Place, n int64) []face {
	t.Helper()
	if len(l) == 0 {
		return nil
	}
	all := spots(l, n, 2)
	var points []api.Point
	for _, c := range all {
		points = append(points, c.at)
	}
	a := corner{l[0].At, l[0].ID}
	others := slices.DeleteFunc(slices.Clone(all), func(c corner) bool { return c == a })
	todo := [][2]corner{{a, slices.MinFunc(others, func(p, q corner) int { return far2(a.at, p.at).Cmp(far2(a.at, q.at)) })}}
	seen := map[[2]corner]bool{}
	found := map[face]bool{}
	for len(todo) > 0 {
		e := todo[len(todo)-1]
		todo = todo[:len(todo)-1]
		right, up := homeOf(e[0].at, n)
		for i := range e {
			e[i].at = at(e[i].at.X-right*n, e[i].at.Y-up*n)
		}
		if seen[e] {
			continue
		}
		seen[e] = true
		c := all[tie.Best(e[0].at, e[1].at, points)]
		found[faceOf([3]corner{e[0], e[1], c}, n)] = true
		todo = append(todo, [2]corner{e[1], e[0]}, [2]corner{e[1], c}, [2]corner{c, e[0]})
	}
	var faces []face
	for f := range found {
		faces = append(faces, f)
	}
	slices.SortFunc(faces, cmpFace)
	if len(faces) != 2*len(l) {
		t.Fatalf("side %d, %v: %d faces", n, l, len(faces))
	}
	return faces
}

// byWords are the faces of the Delaunay mesh by its words: any three places, turning left, that none of the others does away with.
func byWords(l []api.Place, n int64) []face {
	all := spots(l, n, 2)
	found := map[face]bool{}
	for _, p := range l {
		a := corner{p.At, p.ID}
		for _, b := range all {
			for _, c := range all {
				if lift.Cmp(a.at, b.at) < 0 && lift.Cmp(a.at, c.at) < 0 && isFace(a.at, b.at, c.at, all) {
					found[faceOf([3]corner{a, b, c}, n)] = true
				}
			}
		}
	}
	var faces []face
	for f := range found {
		faces = append(faces, f)
	}
	slices.SortFunc(faces, cmpFace)
	return faces
}

// isFace tells whether the three turn left and none of all does away with them.
func isFace(a, b, c api.Point, all []corner) bool {
	return area2(a, b, c).Sign() > 0 && !slices.ContainsFunc(all, func(d corner) bool { return tie.Conflict(a, b, c, d.at) })
}

// laid is what is to be told of sites whose Delaunay mesh has these faces over the torus of side n.
func laid(l []api.Place, n int64, faces []face) told {
	w := told{sites: byID(l), side: n}
	if len(l) == 0 {
		return w
	}
	w.sheets = 1
	for _, f := range faces {
		if reach(f, n) >= 0 {
			w.sheets = 3
		}
	}
	k := int64(w.sheets)
	w.side = n * k
	for x := range k {
		for y := range k {
			for _, p := range l {
				w.verts = append(w.verts, corner{at(p.At.X+x*n, p.At.Y+y*n), p.ID})
			}
			for _, f := range faces {
				for i, c := range f {
					f[i] = corner{at(c.at.X+x*n, c.at.Y+y*n), c.id}
				}
				w.faces = append(w.faces, faceOf(f, w.side))
			}
		}
	}
	slices.SortFunc(w.verts, cmpCorner)
	slices.SortFunc(w.faces, cmpFace)
	return w
}

// known is what is to be told of sites, once it was looked for.
type known map[string]told

// of is what is to be told of these sites.
func (k known) of(t testing.TB, l []api.Place, n int64) told {
	t.Helper()
	l = byID(l)
	key := strconv.FormatInt(n, 10)
	for _, p := range l {
		key += " " + strconv.Itoa(p.ID) + " " + strconv.FormatInt(p.At.X, 10) + " " + strconv.FormatInt(p.At.Y, 10)
	}
	w, ok := k[key]
	if !ok {
		w = laid(l, n, wrap(t, l, n))
		k[key] = w
	}
	return w
}

// hold holds what the engine tells against the mesh that is looked for apart from it, and against P17.6.
func (k known) hold(t testing.TB, e *pdt.Engine, l []api.Place) told {
	t.Helper()
	got, want := tellsOf(t, e), k.of(t, l, e.N())
	if !same(got, want) {
		t.Fatalf("of %v, n %d: %v, not %v", l, e.N(), got, want)
	}
	isTorus(t, e)
	return got
}

// hold is that of known, where the sites come but once.
func hold(t testing.TB, e *pdt.Engine, l []api.Place) told {
	t.Helper()
	return known{}.hold(t, e, l)
}

// rebuilt is a mesh as the dump tells it, and its faces with their new numbers.
func rebuilt(t testing.TB, d api.Dump) *mesh.Mesh {
	t.Helper()
	m := mesh.New(d.Side)
	no := map[int]int{}
	for _, v := range d.Verts {
		no[v.No] = m.AddVert(v.At, v.ID)
	}
	for _, c := range d.Faces {
		u := c.Tri
		for i, v := range u.V {
			u.V[i] = no[v]
		}
		if _, err := m.AddFace(u); err != api.OK {
			t.Fatalf("the mesh refuses %v of %v: %d", c, d, err)
		}
	}
	return m
}

// isTorus is P17.6; it answers the mesh that was built as the dump tells it.
func isTorus(t testing.TB, e *pdt.Engine) *mesh.Mesh {
	t.Helper()
	d := e.Dump()
	if len(e.Sites()) == 0 {
		if d.Side != e.N() || len(d.Verts) != 0 || len(d.Faces) != 0 || e.Sheets() != 0 {
			t.Fatalf("no sites: %v, %d sheets", d, e.Sheets())
		}
		return nil
	}
	m := rebuilt(t, d)
	if err := m.Check(); err != api.OK {
		t.Fatalf("Check of %v: %d", d, err)
	}
	if many := len(e.Sites()) * e.Sheets() * e.Sheets(); len(d.Verts) != many || len(d.Faces) != 2*many {
		t.Fatalf("%d vertices, %d faces, not of %d each", len(d.Verts), len(d.Faces), many)
	}
	threes := map[[3]int]bool{}
	edges := map[[2]int]int{}
	for _, c := range d.Faces {
		v := c.Tri.V
		for i := range 3 {
			a, b := min(v[i], v[(i+1)%3]), max(v[i], v[(i+1)%3])
			if a == b {
				t.Fatalf("%v has an edge from %d to itself", c, a)
			}
			edges[[2]int{a, b}]++
		}
		slices.Sort(v[:])
		if threes[v] {
			t.Fatalf("two faces of %v", v)
		}
		threes[v] = true
	}
	// Three edges of each vertex, each of two faces: as all vertices' pairs differ, none stands for two.
	if len(edges) != 3*len(d.Verts) {
		t.Fatalf("%d edges of %d vertices", len(edges), len(d.Verts))
	}
	return m
}

// isDelaunay holds a mesh of many sites against the words edge by edge: it is the torus, its vertices are just the sites, no third corner across an edge does away with the face on this side, and it has the sheets that its circles ask for.
func isDelaunay(t testing.TB, e *pdt.Engine, l []api.Place) {
	t.Helper()
	m := isTorus(t, e)
	got := tellsOf(t, e)
	if !slices.Equal(got.sites, byID(l)) {
		t.Fatalf("%d sites, not %d", len(got.sites), len(l))
	}
	sheets := 1
	for _, f := range got.faces {
		if reach(f, e.N()) >= 0 {
			sheets = 3
		}
	}
	if got.sheets != sheets || got.side != int64(sheets)*e.N() {
		t.Fatalf("%d sheets of side %d, not %d", got.sheets, got.side, sheets)
	}
	var verts []corner
	for x := range int64(sheets) {
		for y := range int64(sheets) {
			for _, p := range l {
				verts = append(verts, corner{at(p.At.X+x*e.N(), p.At.Y+y*e.N()), p.ID})
			}
		}
	}
	slices.SortFunc(verts, cmpCorner)
	if !slices.Equal(got.verts, verts) {
		t.Fatal("the vertices are others than the sites")
	}
	isLocal(t, m)
}

// isLocal holds a mesh edge by edge against P18.4's words.
func isLocal(t testing.TB, m *mesh.Mesh) {
	t.Helper()
	for _, c := range m.Dump().Faces {
		var p [3]api.Point
		for i := range 3 {
			p[i], _ = m.Corner(c.No, i)
		}
		for i := range 3 {
			g, k, by, _ := m.Across(c.No, i)
			q, _ := m.Corner(g, k)
			q, _ = lift.At(q, by, m.Side())
			if tie.Conflict(p[0], p[1], p[2], q) {
				t.Fatalf("%v does away with the face %v", q, p)
			}
		}
	}
}

// someSites are so many different sites, at most as many as there are.
func someSites(r *rand.Rand, n int64, many int) []api.Point {
	var l []api.Point
	for len(l) < many && int64(len(l)) < n*min(n, 1<<20) {
		if p := at(r.Int63n(n), r.Int63n(n)); !slices.Contains(l, p) {
			l = append(l, p)
		}
	}
	return l
}

// somePlaces are so many sites with different ids, any below m, in any order.
func somePlaces(r *rand.Rand, n int64, m, many int) []api.Place {
	var l []api.Place
	ids := r.Perm(m)
	for i, p := range someSites(r, n, min(many, m)) {
		l = append(l, api.Place{ID: ids[i], At: p})
	}
	return l
}

// square is all sites of the torus of side n.
func square(n int64) []api.Point {
	var l []api.Point
	for x := range n {
		for y := range n {
			l = append(l, at(x, y))
		}
	}
	return l
}

// grid is k by k sites, gap apart, from 0 0 on.
func grid(k, gap int64) []api.Point {
	var l []api.Point
	for _, p := range square(k) {
		l = append(l, at(p.X*gap, p.Y*gap))
	}
	return l
}
