package walk_test

import (
	"cmp"
	"math/big"
	"math/rand"
	"slices"
	"testing"

	"zellige/api"
	"zellige/lift"
	"zellige/mesh"
	"zellige/tie"
	"zellige/walk"
)

// end is the greatest number that a point may have, written out apart from api.
const end = 1099511627776

func at(x, y int64) api.Point {
	return api.Point{X: x, Y: y}
}

func off(x, y int) api.Off {
	return api.Off{X: x, Y: y}
}

// hit is the face f, moved by x sides to the right and y up.
func hit(f, x, y int) api.Hit {
	return api.Hit{Face: f, By: off(x, y)}
}

func plus(a, b api.Off) api.Off {
	return api.Off{X: a.X + b.X, Y: a.Y + b.Y}
}

func minus(a, b api.Off) api.Off {
	return api.Off{X: a.X - b.X, Y: a.Y - b.Y}
}

// tri is a face of the vertices a, b, c, off by those.
func tri(a, b, c int, oa, ob, oc api.Off) api.Tri {
	return api.Tri{V: [3]int{a, b, c}, Off: [3]api.Off{oa, ob, oc}}
}

// flat is a face none of whose corners is off.
func flat(a, b, c int) api.Tri {
	return api.Tri{V: [3]int{a, b, c}}
}

// moved is the face with all its corners so much farther off.
func moved(t api.Tri, by api.Off) api.Tri {
	for i := range t.Off {
		t.Off[i] = plus(t.Off[i], by)
	}
	return t
}

// from is the face told from its corner i on.
func from(t api.Tri, i int) api.Tri {
	var u api.Tri
	for k := range 3 {
		u.V[k], u.Off[k] = t.V[(i+k)%3], t.Off[(i+k)%3]
	}
	return u
}

// build is a mesh of these vertices, whose ids are 100 and on, and of these faces, all of which are to be taken.
func build(t *testing.T, side int64, verts []api.Point, faces ...api.Tri) *mesh.Mesh {
	t.Helper()
	m := mesh.New(side)
	for i, p := range verts {
		if v := m.AddVert(p, 100+i); v != i {
			t.Fatalf("AddVert(%v): %d", p, v)
		}
	}
	for i, u := range faces {
		if f, e := m.AddFace(u); f != i || e != api.OK {
			t.Fatalf("AddFace(%v): %d %d", u, f, e)
		}
	}
	return m
}

// laid is a mesh of faces that are told by where their corners lie, anywhere in the plane: each place of the torus is a vertex.
func laid(t *testing.T, side int64, faces ...[3]api.Point) *mesh.Mesh {
	t.Helper()
	var verts []api.Point
	var list []api.Tri
	for _, c := range faces {
		var u api.Tri
		for i, p := range c {
			home, o := homeOf(p, side)
			u.V[i], u.Off[i] = slices.Index(verts, home), o
			if u.V[i] < 0 {
				u.V[i], verts = len(verts), append(verts, home)
			}
		}
		list = append(list, u)
	}
	return build(t, side, verts, list...)
}

// same holds a dump against what the mesh is now.
func same(t *testing.T, m *mesh.Mesh, want api.Dump) {
	t.Helper()
	got := m.Dump()
	if got.Side != want.Side || !slices.Equal(got.Verts, want.Verts) || !slices.Equal(got.Faces, want.Faces) {
		t.Fatalf("the mesh is %v, not %v", got, want)
	}
}

// strip are the halves of a square that goes so many sides to the right and up from one vertex: they close up, and lie over the torus many times.
func strip(t *testing.T, side int64, right, up int) *mesh.Mesh {
	t.Helper()
	return build(t, side, []api.Point{at(0, 0)},
		tri(0, 0, 0, off(0, 0), off(right, 0), off(0, up)), tri(0, 0, 0, off(right, 0), off(right, up), off(0, up)))
}

// one is the mesh of the vertex 0 0 and of the two halves of its square.
func one(t *testing.T, side int64) *mesh.Mesh {
	t.Helper()
	return strip(t, side, 1, 1)
}

// grid is k by k vertices, gap apart from 1 1 on, each square halved from right below to left above: the face 2 (k x + y) is the lower half of a square, the next one the upper half.
func grid(t *testing.T, k int, gap int64) *mesh.Mesh {
	t.Helper()
	var verts []api.Point
	var faces []api.Tri
	node := func(x, y int) (int, api.Off) { return x%k*k + y%k, off(x/k, y/k) }
	for x := range k {
		for y := range k {
			verts = append(verts, at(int64(x)*gap+1, int64(y)*gap+1))
			a, oa := node(x, y)
			b, ob := node(x+1, y)
			c, oc := node(x+1, y+1)
			d, od := node(x, y+1)
			faces = append(faces, tri(a, b, d, oa, ob, od), tri(b, c, d, ob, oc, od))
		}
	}
	return build(t, int64(k)*gap, verts, faces...)
}

// row is k vertices on a line, gap apart from 0 0 on, each tall square halved from right below to left above. The last column's faces have the least numbers: lower and upper tell a column's.
func row(t *testing.T, k int, gap int64) (m *mesh.Mesh, lower, upper func(column int) int) {
	t.Helper()
	var verts []api.Point
	var faces []api.Tri
	for x := range k {
		verts = append(verts, at(int64(x)*gap, 0))
	}
	for x := k - 1; x >= 0; x-- {
		b, right := (x+1)%k, (x+1)/k
		faces = append(faces,
			tri(b, b, x, off(right, 0), off(right, 1), off(0, 1)),
			tri(x, b, x, off(0, 0), off(right, 0), off(0, 1)))
	}
	upper = func(column int) int { return 2 * (k - 1 - column) }
	lower = func(column int) int { return upper(column) + 1 }
	return build(t, int64(k)*gap, verts, faces...), lower, upper
}

// homeOf is a point's place in the first square, and by how many sides it lies off that.
func homeOf(p api.Point, side int64) (api.Point, api.Off) {
	x, right := new(big.Int).DivMod(big.NewInt(p.X), big.NewInt(side), new(big.Int))
	y, up := new(big.Int).DivMod(big.NewInt(p.Y), big.NewInt(side), new(big.Int))
	return at(right.Int64(), up.Int64()), off(int(x.Int64()), int(y.Int64()))
}

func can(p api.Point) bool {
	return -end <= p.X && p.X <= end && -end <= p.Y && p.Y <= end
}

// faceOf is the face of that number, if the dump has one.
func faceOf(d api.Dump, f int) (api.Tri, bool) {
	for _, c := range d.Faces {
		if c.No == f {
			return c.Tri, true
		}
	}
	return api.Tri{}, false
}

// cornersOf is where the corners of the moved face lie, and whether all of them can be.
func cornersOf(d api.Dump, h api.Hit) ([3]api.Point, bool) {
	t, _ := faceOf(d, h.Face)
	var c [3]api.Point
	all := true
	for i := range c {
		n := slices.IndexFunc(d.Verts, func(v api.Vert) bool { return v.No == t.V[i] })
		o := plus(t.Off[i], h.By)
		c[i] = at(d.Verts[n].At.X+int64(o.X)*d.Side, d.Verts[n].At.Y+int64(o.Y)*d.Side)
		all = all && can(c[i])
	}
	return c, all
}

// turn is 1, 0, -1 for c to the left of the way from a to b, in line with it, to its right: all three points are taken across each other.
func turn(a, b, c api.Point) int {
	if isNear(a) && isNear(b) && isNear(c) {
		return cmp.Compare(a.X*b.Y-a.Y*b.X+b.X*c.Y-b.Y*c.X+c.X*a.Y-c.Y*a.X, 0)
	}
	across := func(p, q api.Point) *big.Int {
		x := new(big.Int).Mul(big.NewInt(p.X), big.NewInt(q.Y))
		return x.Sub(x, new(big.Int).Mul(big.NewInt(p.Y), big.NewInt(q.X)))
	}
	sum := across(a, b)
	sum.Add(sum, across(b, c)).Add(sum, across(c, a))
	return sum.Sign()
}

// isNear tells whether six products of such numbers have room in 64 bits.
func isNear(p api.Point) bool {
	return -1<<30 < p.X && p.X < 1<<30 && -1<<30 < p.Y && p.Y < 1<<30
}

// holds tells whether q lies in the triangle or on its edge.
func holds(c [3]api.Point, q api.Point) bool {
	return turn(c[0], c[1], q) >= 0 && turn(c[1], c[2], q) >= 0 && turn(c[2], c[0], q) >= 0
}

// slowAcross is the moved face that has the edge across from the corner i of this one the other way round: each face is held against it, knot by knot.
func slowAcross(d api.Dump, h api.Hit, i int) (api.Hit, bool) {
	t, _ := faceOf(d, h.Face)
	t = moved(from(t, i), h.By)
	for _, c := range d.Faces {
		for k := range 3 {
			u := from(c.Tri, k)
			by := minus(t.Off[1], u.Off[2])
			u = moved(u, by)
			if u.V[2] == t.V[1] && u.V[1] == t.V[2] && u.Off[1] == t.Off[2] {
				return api.Hit{Face: c.No, By: by}, true
			}
		}
	}
	return api.Hit{}, false
}

// answer is what Find answers.
type answer struct {
	face int
	by   api.Off
	come int
	ok   bool
}

// none is the answer that there is nothing.
var none = answer{face: -1}

// slowWalk is the way from face to face by P16.1's words: all faces that stand on it, the first one too, and whether the last one is found.
func slowWalk(d api.Dump, f int, q api.Point, fuel int) ([]api.Hit, bool) {
	way := []api.Hit{hit(f, 0, 0)}
	for {
		here := way[len(way)-1]
		c, _ := cornersOf(d, here)
		out := slices.IndexFunc([]int{0, 1, 2}, func(i int) bool { return turn(c[(i+1)%3], c[(i+2)%3], q) < 0 })
		if out < 0 {
			return way, true
		}
		next, ok := slowAcross(d, here, out)
		if fuel == 0 || !ok {
			return way, false
		}
		way, fuel = append(way, next), fuel-1
		// One that can't be moved so far is come to, but is not found.
		if _, all := cornersOf(d, next); !all {
			return way, false
		}
	}
}

// slowLook is all moved faces in which q lies, in the order in which they are looked at, by P16.1's words.
func slowLook(d api.Dump, q api.Point) []api.Hit {
	var list []api.Hit
	for _, c := range d.Faces {
		first, _ := cornersOf(d, hit(c.No, 0, 0))
		_, o := homeOf(first[0], d.Side)
		for n := range 49 {
			by := minus(off(n/7-3, n%7-3), o)
			var at [3]api.Point
			all := true
			for i, p := range first {
				at[i] = api.Point{X: p.X + int64(by.X)*d.Side, Y: p.Y + int64(by.Y)*d.Side}
				all = all && can(at[i])
			}
			if all && holds(at, q) {
				list = append(list, api.Hit{Face: c.No, By: by})
			}
		}
	}
	return list
}

// slowFind is Find by the words.
func slowFind(d api.Dump, f int, p api.Point, fuel int) answer {
	if len(d.Faces) == 0 || !can(p) {
		return none
	}
	if _, ok := faceOf(d, f); !ok {
		f = slices.MinFunc(d.Faces, func(a, b api.Cell) int { return a.No - b.No }).No
	}
	if fuel < 0 {
		fuel = 0
	}
	if fuel > 1000 {
		fuel = 1000
	}
	q, o := homeOf(p, d.Side)
	way, ok := slowWalk(d, f, q, fuel)
	found := way[len(way)-1]
	if !ok {
		list := slowLook(d, q)
		if len(list) == 0 {
			return none
		}
		found = list[0]
	}
	return answer{face: found.Face, by: plus(found.By, o), come: len(way) - 1, ok: true}
}

// find is Find's answer as one value.
func find(m *mesh.Mesh, f int, p api.Point, fuel int) answer {
	face, by, come, ok := walk.Find(m, f, p, fuel)
	return answer{face, by, come, ok}
}

// hold holds Find against the words, P16.3 with it, and that the mesh is as it was; it answers what Find does.
func hold(t *testing.T, m *mesh.Mesh, f int, p api.Point, fuel int) answer {
	t.Helper()
	d := m.Dump()
	got, want := find(m, f, p, fuel), slowFind(d, f, p, fuel)
	if got != want {
		t.Fatalf("Find(%d, %v, %d) of %v: %v, not %v", f, p, fuel, d, got, want)
	}
	if got.ok {
		if c, _ := cornersOf(d, api.Hit{Face: got.face, By: got.by}); !holds(c, p) {
			t.Fatalf("Find(%d, %v, %d) of %v: %v does not hold it", f, p, fuel, d, c)
		}
	}
	same(t, m, d)
	return got
}

// is holds Find against the words, and against what is written out.
func is(t *testing.T, m *mesh.Mesh, f int, p api.Point, fuel int, want answer) {
	t.Helper()
	if got := hold(t, m, f, p, fuel); got != want {
		t.Fatalf("Find(%d, %v, %d): %v, not %v", f, p, fuel, got, want)
	}
}

// class is a triangle over the torus: its corners, turning left, moved by whole sides so that the first one lies in the first square, and from the corner on that makes it the least.
type class [3]api.Point

func cmpClass(a, b class) int {
	for i := range a {
		if c := lift.Cmp(a[i], b[i]); c != 0 {
			return c
		}
	}
	return 0
}

func classOf(c [3]api.Point, side int64) class {
	var all []class
	for i := range 3 {
		_, o := homeOf(c[i], side)
		var k class
		for j := range 3 {
			k[j] = at(c[(i+j)%3].X-int64(o.X)*side, c[(i+j)%3].Y-int64(o.Y)*side)
		}
		all = append(all, k)
	}
	return slices.MinFunc(all, cmpClass)
}

// wrap are the classes of the Delaunay mesh (18) of different sites: from an edge that is in it, from a site to the nearest place, one goes on to the third corner of each edge's face, and so from edge to edge.
// No circle that has none of a site's places within is wider than a square's diagonal, so that all corners of a face lie by at most two sides off, if one lies in the first square.
func wrap(t *testing.T, side int64, sites []api.Point) []class {
	t.Helper()
	var places []api.Point
	for _, p := range sites {
		places = append(places, lift.Window(p, side, 2)...)
	}
	a := sites[0]
	others := slices.DeleteFunc(slices.Clone(places), func(p api.Point) bool { return p == a })
	todo := [][2]api.Point{{a, slices.MinFunc(others, func(p, q api.Point) int { return far(a, p).Cmp(far(a, q)) })}}
	seen := map[[2]api.Point]bool{}
	found := map[class]bool{}
	for len(todo) > 0 {
		e := todo[0]
		todo = todo[1:]
		_, o := homeOf(e[0], side)
		for i := range e {
			e[i] = at(e[i].X-int64(o.X)*side, e[i].Y-int64(o.Y)*side)
		}
		if seen[e] {
			continue
		}
		seen[e] = true
		c := places[tie.Best(e[0], e[1], places)]
		found[classOf([3]api.Point{e[0], e[1], c}, side)] = true
		todo = append(todo, [2]api.Point{e[1], e[0]}, [2]api.Point{e[1], c}, [2]api.Point{c, e[0]})
	}
	var list []class
	for k := range found {
		list = append(list, k)
	}
	slices.SortFunc(list, cmpClass)
	if len(list) != 2*len(sites) {
		t.Fatalf("side %d, %v: %d faces", side, sites, len(list))
	}
	return list
}

// far is the square of how far p is from a.
func far(a, p api.Point) *big.Int {
	x, y := big.NewInt(p.X-a.X), big.NewInt(p.Y-a.Y)
	return x.Mul(x, x).Add(x, y.Mul(y, y))
}

// delaunay is the Delaunay mesh (18) of different sites; its faces come in any order, moved by up to so many sides, from any corner on.
func delaunay(t *testing.T, side int64, sites []api.Point, r *rand.Rand, reach int) *mesh.Mesh {
	t.Helper()
	list := wrap(t, side, sites)
	r.Shuffle(len(list), func(i, k int) { list[i], list[k] = list[k], list[i] })
	var faces []api.Tri
	for _, k := range list {
		var u api.Tri
		for i, p := range k {
			home, o := homeOf(p, side)
			u.V[i], u.Off[i] = slices.Index(sites, home), o
		}
		faces = append(faces, moved(from(u, r.Intn(3)), off(r.Intn(2*reach+1)-reach, r.Intn(2*reach+1)-reach)))
	}
	m := build(t, side, sites, faces...)
	if e := m.Check(); e != api.OK {
		t.Fatalf("side %d, %v: Check is %d", side, sites, e)
	}
	return m
}

// nine are the sites on the torus of three times the side, nine of each.
func nine(side int64, sites []api.Point) []api.Point {
	var list []api.Point
	for _, p := range sites {
		for n := range int64(9) {
			list = append(list, at(p.X+n/3*side, p.Y+n%3*side))
		}
	}
	return list
}

// someSites are so many different sites, at most as many as there are.
func someSites(r *rand.Rand, side int64, many int) []api.Point {
	var list []api.Point
	for len(list) < many && int64(len(list)) < side*min(side, 1<<20) {
		if p := at(r.Int63n(side), r.Int63n(side)); !slices.Contains(list, p) {
			list = append(list, p)
		}
	}
	return list
}

// scrambled is a closed mesh that is no Delaunay mesh: a grid into whose faces vertices were put, without any look at circles.
func scrambled(t *testing.T, r *rand.Rand, k, many int) *mesh.Mesh {
	t.Helper()
	m := grid(t, k, 40000)
	for range many {
		cells := m.Dump().Faces
		c := cells[r.Intn(len(cells))]
		// Anywhere within the face.
		weights := [3]int64{1 + r.Int63n(9), 1 + r.Int63n(9), 1 + r.Int63n(9)}
		var sum api.Point
		for i, w := range weights {
			q, _ := m.Corner(c.No, i)
			sum = at(sum.X+w*q.X, sum.Y+w*q.Y)
		}
		all := weights[0] + weights[1] + weights[2]
		home, o := homeOf(at(sum.X/all, sum.Y/all), m.Side())
		v := m.AddVert(home, 0)
		m.DropFace(c.No)
		for i := range 3 {
			j := (i + 1) % 3
			if _, e := m.AddFace(tri(c.Tri.V[i], c.Tri.V[j], v, c.Tri.Off[i], c.Tri.Off[j], o)); e != api.OK {
				t.Fatal(e)
			}
		}
	}
	if m.Check() != api.OK {
		t.Fatal("no mesh")
	}
	return m
}

// anyhow is a mesh of faces that were put without any look at one another.
func anyhow(r *rand.Rand) *mesh.Mesh {
	m := mesh.New(2 + r.Int63n(12))
	for i := range 5 {
		m.AddVert(at(r.Int63n(m.Side()), r.Int63n(m.Side())), 100+i)
	}
	o := func() api.Off { return off(r.Intn(5)-2, r.Intn(5)-2) }
	for range 1 + r.Intn(60) {
		m.AddFace(tri(r.Intn(5), r.Intn(5), r.Intn(5), o(), o(), o()))
	}
	return m
}

// square is all points of the first square.
func square(side int64) []api.Point {
	var points []api.Point
	for x := range side {
		for y := range side {
			points = append(points, at(x, y))
		}
	}
	return points
}
