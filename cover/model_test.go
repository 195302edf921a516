package cover_test

import (
	"cmp"
	"math/big"
	"math/rand"
	"slices"
	"testing"

	"zellige/api"
	"zellige/circum"
	"zellige/cover"
	"zellige/lift"
	"zellige/mesh"
	"zellige/tie"
)

// end is the greatest number that a point may have, written out apart from api.
const end = 1099511627776

func at(x, y int64) api.Point {
	return api.Point{X: x, Y: y}
}

func off(x, y int) api.Off {
	return api.Off{X: x, Y: y}
}

func plus(a, b api.Off) api.Off {
	return api.Off{X: a.X + b.X, Y: a.Y + b.Y}
}

func minus(a, b api.Off) api.Off {
	return api.Off{X: a.X - b.X, Y: a.Y - b.Y}
}

// tri is a face of the vertices a, b, c, off by those.
func tri(a, b, c int, oa, ob, oc api.Off) api.Tri {
	return api.Tri{V: [3]int{a, b, c}, Off: [3]api.Off{oa, ob, oc}}
}

// flat is a face none of whose corners is off.
func flat(a, b, c int) api.Tri {
	return api.Tri{V: [3]int{a, b, c}}
}

// moved is the face with all its corners so much farther off.
func moved(t api.Tri, by api.Off) api.Tri {
	for i := range t.Off {
		t.Off[i] = plus(t.Off[i], by)
	}
	return t
}

// from is the face told from its corner i on.
func from(t api.Tri, i int) api.Tri {
	var u api.Tri
	for k := range 3 {
		u.V[k], u.Off[k] = t.V[(i+k)%3], t.Off[(i+k)%3]
	}
	return u
}

// build is a mesh of these vertices, whose ids are 100 and on, and of these faces, all of which are to be taken.
func build(t *testing.T, side int64, verts []api.Point, faces ...api.Tri) *mesh.Mesh {
	t.Helper()
	m := mesh.New(side)
	for i, p := range verts {
		if v := m.AddVert(p, 100+i); v != i {
			t.Fatalf("AddVert(%v): %d", p, v)
		}
	}
	for i, u := range faces {
		if f, e := m.AddFace(u); f != i || e != api.OK {
			t.Fatalf("AddFace(%v): %d %d", u, f, e)
		}
	}
	return m
}

// same holds a dump against what the mesh is now.
func same(t *testing.T, m *mesh.Mesh, want api.Dump) {
	t.Helper()
	got := m.Dump()
	if got.Side != want.Side || !slices.Equal(got.Verts, want.Verts) || !slices.Equal(got.Faces, want.Faces) {
		t.Fatalf("the mesh is %v, not %v", got, want)
	}
}

// one is the mesh of the vertex 0 0 and of the two halves of its square.
func one(t *testing.T, side int64) *mesh.Mesh {
	t.Helper()
	return strip(t, side, 1, 1)
}

// strip are the halves of a square that goes so many sides to the right and up from one vertex: they close up, and lie over the torus many times.
func strip(t *testing.T, side int64, right, up int) *mesh.Mesh {
	t.Helper()
	return build(t, side, []api.Point{at(0, 0)},
		tri(0, 0, 0, off(0, 0), off(right, 0), off(0, up)), tri(0, 0, 0, off(right, 0), off(right, up), off(0, up)))
}

// grid is k by k vertices, gap apart from 1 1 on, each square halved from right below to left above: the face 2 (k x + y) is the lower half of a square, the next one the upper half.
func grid(t *testing.T, k int, gap int64) *mesh.Mesh {
	t.Helper()
	var verts []api.Point
	var faces []api.Tri
	node := func(x, y int) (int, api.Off) { return x%k*k + y%k, off(x/k, y/k) }
	for x := range k {
		for y := range k {
			verts = append(verts, at(int64(x)*gap+1, int64(y)*gap+1))
			a, oa := node(x, y)
			b, ob := node(x+1, y)
			c, oc := node(x+1, y+1)
			d, od := node(x, y+1)
			faces = append(faces, tri(a, b, d, oa, ob, od), tri(b, c, d, ob, oc, od))
		}
	}
	return build(t, int64(k)*gap, verts, faces...)
}

// meshOf is a mesh that has just these vertices and faces with just these numbers: gaps are lent and come back.
func meshOf(t *testing.T, d api.Dump) *mesh.Mesh {
	t.Helper()
	m := mesh.New(d.Side)
	var gaps []int
	for _, v := range d.Verts {
		n := m.AddVert(v.At, v.ID)
		for ; n < v.No; n = m.AddVert(v.At, v.ID) {
			m.DropVert(n)
			gaps = append(gaps, m.AddVert(at(0, 0), -1))
		}
	}
	// Three more, whose faces hold the gaps of the faces' numbers.
	var extra [3]int
	for i := range extra {
		extra[i] = m.AddVert(at(0, 0), -1)
	}
	var held []int
	for _, c := range d.Faces {
		f := -1
		for next := len(held); f < c.No; next++ {
			f = addFace(t, m, c.Tri)
			if f < c.No {
				m.DropFace(f)
				held = append(held, addFace(t, m, tri(extra[0], extra[1], extra[2], off(0, 0), off(next+1, 0), off(-next, 1))))
			}
		}
	}
	for _, f := range held {
		m.DropFace(f)
	}
	for _, v := range append(gaps, extra[:]...) {
		m.DropVert(v)
	}
	same(t, m, d)
	return m
}

// addFace is a face's number, which is to be taken.
func addFace(t *testing.T, m *mesh.Mesh, u api.Tri) int {
	t.Helper()
	f, e := m.AddFace(u)
	if e != api.OK {
		t.Fatalf("AddFace(%v): %d", u, e)
	}
	return f
}

// numbered is a mesh's vertices, whose ids are told, and faces, with numbers from 0 on.
func numbered(side int64, verts []api.Vert, faces ...api.Tri) api.Dump {
	d := api.Dump{Side: side}
	for i, v := range verts {
		d.Verts = append(d.Verts, api.Vert{No: i, At: v.At, ID: v.ID})
	}
	for i, u := range faces {
		d.Faces = append(d.Faces, api.Cell{No: i, Tri: u})
	}
	return d
}

// shuffled is the same mesh, all its vertices and faces with other numbers, with gaps if wanted, the faces from any corner on and moved by whole sides.
func shuffled(r *rand.Rand, d api.Dump, gaps bool) api.Dump {
	spread := func(n int) []int {
		list := r.Perm(n)
		if gaps {
			list = r.Perm(n + 5)[:n]
		}
		return list
	}
	out := api.Dump{Side: d.Side}
	to := map[int]int{}
	numbers := spread(len(d.Verts))
	for i, v := range d.Verts {
		to[v.No] = numbers[i]
		out.Verts = append(out.Verts, api.Vert{No: numbers[i], At: v.At, ID: v.ID})
	}
	numbers = spread(len(d.Faces))
	for i, c := range d.Faces {
		u := moved(from(c.Tri, r.Intn(3)), off(r.Intn(5)-2, r.Intn(5)-2))
		for k, v := range u.V {
			u.V[k] = to[v]
		}
		out.Faces = append(out.Faces, api.Cell{No: numbers[i], Tri: u})
	}
	slices.SortFunc(out.Verts, func(a, b api.Vert) int { return cmp.Compare(a.No, b.No) })
	slices.SortFunc(out.Faces, func(a, b api.Cell) int { return cmp.Compare(a.No, b.No) })
	return out
}

// numbersOf is a face's numbers in the order in which P14.1 asks for them.
func numbersOf(t api.Tri) []int {
	var list []int
	for i := range 3 {
		list = append(list, t.V[i], t.Off[i].X, t.Off[i].Y)
	}
	return list
}

// slowNormal is Normal by the words.
func slowNormal(t api.Tri) api.Tri {
	var list []api.Tri
	for i := range 3 {
		u := from(t, i)
		list = append(list, moved(u, minus(off(0, 0), u.Off[0])))
	}
	return slices.MinFunc(list, func(a, b api.Tri) int { return slices.Compare(numbersOf(a), numbersOf(b)) })
}

// holdFaces holds Normal and Cmp of two faces against the words.
func holdFaces(t *testing.T, a, b api.Tri) {
	t.Helper()
	if got, want := cover.Cmp(a, b), slices.Compare(numbersOf(a), numbersOf(b)); got != want {
		t.Fatalf("Cmp(%v, %v): %d, not %d", a, b, got, want)
	}
	for _, u := range []api.Tri{a, b} {
		if got, want := cover.Normal(u), slowNormal(u); got != want {
			t.Fatalf("Normal(%v): %v, not %v", u, got, want)
		}
	}
}

// down is c divided by side, going down, and what is left.
func down(c, side int64) (int64, int64) {
	q, r := new(big.Int).DivMod(big.NewInt(c), big.NewInt(side), new(big.Int))
	return q.Int64(), r.Int64()
}

// homeOf is where p lies in the first square, and by how many sides off.
func homeOf(p api.Point, side int64) (api.Point, api.Off) {
	qx, x := down(p.X, side)
	qy, y := down(p.Y, side)
	return at(x, y), off(int(qx), int(qy))
}

// vertOf is d's vertex of that number.
func vertOf(d api.Dump, v int) api.Vert {
	return d.Verts[slices.IndexFunc(d.Verts, func(w api.Vert) bool { return w.No == v })]
}

// placesOf is where the corners of one of d's faces lie, moved by i and k times far.
func placesOf(d api.Dump, u api.Tri, i, k, far int64) [3]api.Point {
	var list [3]api.Point
	for n, v := range u.V {
		p := vertOf(d, v).At
		list[n] = at(p.X+int64(u.Off[n].X)*d.Side+i*far, p.Y+int64(u.Off[n].Y)*d.Side+k*far)
	}
	return list
}

// slowNine is Nine by the words, of a mesh whose faces, moved, can be: each corner is looked for where it lies.
func slowNine(d api.Dump) (api.Dump, bool) {
	if d.Side < 1 || 3*d.Side > 17179869184 {
		return api.Dump{}, false
	}
	out := api.Dump{Side: 3 * d.Side}
	for _, v := range d.Verts {
		for i := range int64(3) {
			for k := range int64(3) {
				out.Verts = append(out.Verts, api.Vert{No: len(out.Verts), At: at(v.At.X+i*d.Side, v.At.Y+k*d.Side), ID: v.ID})
			}
		}
	}
	for _, c := range d.Faces {
		for i := range int64(3) {
			for k := range int64(3) {
				var u api.Tri
				for n, p := range placesOf(d, c.Tri, i, k, d.Side) {
					home, o := homeOf(p, out.Side)
					r := slices.IndexFunc(d.Verts, func(v api.Vert) bool { return v.No == c.Tri.V[n] })
					u.V[n] = 9*r + slices.IndexFunc(out.Verts[9*r:9*r+9], func(v api.Vert) bool { return v.At == home })
					u.Off[n] = o
				}
				out.Faces = append(out.Faces, api.Cell{No: len(out.Faces), Tri: u})
			}
		}
	}
	return out, true
}

// groups is d's vertices of one id, at one place modulo a third of the side, by the least number of each; false, if they are not nine in nine squares.
func groups(d api.Dump) ([][]api.Vert, bool) {
	third := d.Side / 3
	var list [][]api.Vert
	for _, v := range d.Verts {
		home, square := homeOf(v.At, third)
		g := slices.IndexFunc(list, func(l []api.Vert) bool {
			h, _ := homeOf(l[0].At, third)
			return l[0].ID == v.ID && h == home
		})
		if g < 0 {
			list = append(list, []api.Vert{v})
			continue
		}
		for _, w := range list[g] {
			if _, s := homeOf(w.At, third); s == square {
				return nil, false
			}
		}
		list[g] = append(list[g], v)
	}
	for _, l := range list {
		if len(l) != 9 {
			return nil, false
		}
	}
	return list, true
}

// thing is a face of d, by its corners' ids and places.
type thing struct {
	ids [3]int
	at  [3]api.Point
}

func thingOf(d api.Dump, u api.Tri, i, k, far int64) thing {
	x := thing{at: placesOf(d, u, i, k, far)}
	for n, v := range u.V {
		x.ids[n] = vertOf(d, v).ID
	}
	return x
}

// isMoved tells whether b is a, from some corner on, moved by whole sides.
func isMoved(a, b thing, side int64) bool {
	for r := range 3 {
		fit := true
		dx, dy := b.at[r].X-a.at[0].X, b.at[r].Y-a.at[0].Y
		for n := range 3 {
			p, q := a.at[n], b.at[(r+n)%3]
			fit = fit && a.ids[n] == b.ids[(r+n)%3] && q.X-p.X == dx && q.Y-p.Y == dy
		}
		if fit && dx%side == 0 && dy%side == 0 {
			return true
		}
	}
	return false
}

// slowOne is One by the words, of a mesh: of each face all nine are looked for.
func slowOne(d api.Dump) (api.Dump, bool) {
	if d.Side < 1 || d.Side%3 != 0 {
		return api.Dump{}, false
	}
	third := d.Side / 3
	list, ok := groups(d)
	if !ok {
		return api.Dump{}, false
	}
	out := api.Dump{Side: third}
	number := map[int]int{}
	for n, l := range list {
		home, _ := homeOf(l[0].At, third)
		out.Verts = append(out.Verts, api.Vert{No: n, At: home, ID: l[0].ID})
		for _, v := range l {
			number[v.No] = n
		}
	}
	var things []thing
	for _, c := range d.Faces {
		things = append(things, thingOf(d, c.Tri, 0, 0, 0))
	}
	for n, c := range d.Faces {
		least := n
		for i := range int64(3) {
			for k := range int64(3) {
				x := thingOf(d, c.Tri, i, k, third)
				there := slices.IndexFunc(things, func(y thing) bool { return isMoved(x, y, d.Side) })
				if there < 0 {
					return api.Dump{}, false
				}
				least = min(least, there)
			}
		}
		if least < n {
			continue
		}
		var u api.Tri
		for k, p := range things[n].at {
			_, u.Off[k] = homeOf(p, third)
			u.V[k] = number[c.Tri.V[k]]
		}
		out.Faces = append(out.Faces, api.Cell{No: len(out.Faces), Tri: u})
	}
	return out, true
}

// holdNine holds Nine against the words, and that m is as it was, and answers it.
func holdNine(t *testing.T, m *mesh.Mesh) *mesh.Mesh {
	t.Helper()
	d := m.Dump()
	want, ok := slowNine(d)
	got := cover.Nine(m)
	if (got != nil) != ok {
		t.Fatalf("Nine of %v: %v", d, got)
	}
	if ok {
		same(t, got, want)
		fresh(t, got, want)
	}
	if m != nil {
		same(t, m, d)
	}
	return got
}

// holdOne holds One against the words, and that m is as it was, and answers it.
func holdOne(t *testing.T, m *mesh.Mesh) (*mesh.Mesh, bool) {
	t.Helper()
	d := m.Dump()
	want, ok := slowOne(d)
	got, ok2 := cover.One(m)
	if ok2 != ok || (got != nil) != ok {
		t.Fatalf("One of %v: %v %v, not %v", d, got, ok2, ok)
	}
	if ok {
		same(t, got, want)
		fresh(t, got, want)
	}
	if m != nil {
		same(t, m, d)
	}
	return got, ok
}

// fresh holds that the mesh's numbers have no gaps, so that the next ones are lent.
func fresh(t *testing.T, m *mesh.Mesh, d api.Dump) {
	t.Helper()
	list := lent(m)
	for i, n := range list {
		want := len(d.Verts) + i
		if i >= 3 {
			want = len(d.Faces) + i - 3
		}
		if n != want {
			t.Fatalf("%v are lent behind %d and %d", list, len(d.Verts), len(d.Faces))
		}
	}
	same(t, m, d)
}

// lent are the numbers that the mesh lends next; behind it all is as it was.
func lent(m *mesh.Mesh) []int {
	var list []int
	for range 3 {
		list = append(list, m.AddVert(at(0, 0), 0))
	}
	a, b, c := list[0], list[1], list[2]
	for i := range 4 {
		f, _ := m.AddFace(tri(a, b, c, off(0, 0), off(i+1, 0), off(-i, 1)))
		list = append(list, f)
	}
	// The last one first, so that they would be lent again in the same order.
	for i := len(list) - 1; i >= 3; i-- {
		m.DropFace(list[i])
	}
	for i := 2; i >= 0; i-- {
		m.DropVert(list[i])
	}
	return list
}

// class is a triangle over the torus: its corners, turning left, moved by whole sides so that the first one lies in the first square, and from the corner on that makes it the least.
type class [3]api.Point

func cmpClass(a, b class) int {
	for i := range a {
		if c := lift.Cmp(a[i], b[i]); c != 0 {
			return c
		}
	}
	return 0
}

func classOf(c [3]api.Point, side int64) class {
	var all []class
	for i := range 3 {
		_, o, _ := lift.Home(c[i], side)
		var k class
		for j := range 3 {
			k[j] = at(c[(i+j)%3].X-int64(o.X)*side, c[(i+j)%3].Y-int64(o.Y)*side)
		}
		all = append(all, k)
	}
	return slices.MinFunc(all, cmpClass)
}

// classes are those of all faces of a mesh, in order.
func classes(m *mesh.Mesh) []class {
	var list []class
	for _, c := range m.Dump().Faces {
		var at [3]api.Point
		for i := range 3 {
			at[i], _ = m.Corner(c.No, i)
		}
		list = append(list, classOf(at, m.Side()))
	}
	slices.SortFunc(list, cmpClass)
	return list
}

// sitesOf are where the vertices of a mesh lie.
func sitesOf(m *mesh.Mesh) []api.Point {
	var list []api.Point
	for _, v := range m.Dump().Verts {
		list = append(list, v.At)
	}
	return list
}

// about are all places of the sites by -2 to 2 sides off: no circle that has none of a site's places within is wider than a square's diagonal, so that all corners of a face lie there, if one lies in the first square.
func about(side int64, sites []api.Point) []api.Point {
	var list []api.Point
	for _, p := range sites {
		list = append(list, lift.Window(p, side, 2)...)
	}
	return list
}

// wrap are the classes of the Delaunay mesh (18) of different sites: from an edge that is in it, from a site to the nearest place, one goes on to the third corner of each edge's face, and so from edge to edge.
func wrap(t *testing.T, side int64, sites []api.Point) []class {
	t.Helper()
	places := about(side, sites)
	a := sites[0]
	near := slices.MinFunc(places, func(p, q api.Point) int {
		return cmpDist(a, p, q)
	})
	todo := [][2]api.Point{{a, near}}
	seen := map[[2]api.Point]bool{}
	found := map[class]bool{}
	for len(todo) > 0 {
		e := todo[0]
		todo = todo[1:]
		_, o, _ := lift.Home(e[0], side)
		for i := range e {
			e[i] = at(e[i].X-int64(o.X)*side, e[i].Y-int64(o.Y)*side)
		}
		if seen[e] {
			continue
		}
		seen[e] = true
		c := places[tie.Best(e[0], e[1], places)]
		found[classOf([3]api.Point{e[0], e[1], c}, side)] = true
		todo = append(todo, [2]api.Point{e[1], e[0]}, [2]api.Point{e[1], c}, [2]api.Point{c, e[0]})
	}
	var list []class
	for k := range found {
		list = append(list, k)
	}
	slices.SortFunc(list, cmpClass)
	if len(list) != 2*len(sites) {
		t.Fatalf("side %d, %v: %d faces", side, sites, len(list))
	}
	return list
}

// cmpDist is whether p or q is nearer to a, a itself being the farthest.
func cmpDist(a, p, q api.Point) int {
	if p == a || q == a {
		if p == q {
			return 0
		}
		if p == a {
			return 1
		}
		return -1
	}
	far := func(p api.Point) *big.Int {
		x, y := big.NewInt(p.X-a.X), big.NewInt(p.Y-a.Y)
		return x.Mul(x, x).Add(x, y.Mul(y, y))
	}
	return far(p).Cmp(far(q))
}

// delaunay is the Delaunay mesh (18) of different sites; its faces come in any order, moved anyhow, from any corner on.
func delaunay(t *testing.T, side int64, sites []api.Point, r *rand.Rand) *mesh.Mesh {
	t.Helper()
	number := map[api.Point]int{}
	for i, p := range sites {
		number[p] = i
	}
	list := wrap(t, side, sites)
	r.Shuffle(len(list), func(i, k int) { list[i], list[k] = list[k], list[i] })
	var faces []api.Tri
	for _, k := range list {
		var u api.Tri
		for i, p := range k {
			home, o, _ := lift.Home(p, side)
			u.V[i], u.Off[i] = number[home], o
		}
		faces = append(faces, moved(from(u, r.Intn(3)), off(r.Intn(5)-2, r.Intn(5)-2)))
	}
	m := build(t, side, sites, faces...)
	if e := m.Check(); e != api.OK {
		t.Fatalf("side %d, %v: Check is %d", side, sites, e)
	}
	return m
}

// isDelaunay holds that m is the Delaunay mesh of its vertices (18): its faces are those that wrap tells, and, asked point by point, none of the places about a face does away with it.
func isDelaunay(t *testing.T, m *mesh.Mesh) {
	t.Helper()
	if e := m.Check(); e != api.OK {
		t.Fatal(e)
	}
	sites := sitesOf(m)
	list := classes(m)
	if want := wrap(t, m.Side(), sites); !slices.Equal(list, want) {
		t.Fatalf("side %d, %v: %v, not %v", m.Side(), sites, list, want)
	}
	places := about(m.Side(), sites)
	for _, k := range list {
		for _, p := range places {
			if tie.Conflict(k[0], k[1], k[2], p) {
				t.Fatalf("side %d, %v: %v does away with %v", m.Side(), sites, p, k)
			}
		}
	}
}

// allSmall tells whether each face's circle is small against the side (9).
func allSmall(m *mesh.Mesh) bool {
	for _, k := range classes(m) {
		if !circum.Small(k[0], k[1], k[2], m.Side()) {
			return false
		}
	}
	return true
}

// someSites are so many different sites, at most as many as there are.
func someSites(r *rand.Rand, side int64, many int) []api.Point {
	var list []api.Point
	for len(list) < many && int64(len(list)) < side*min(side, 1<<20) {
		if p := at(r.Int63n(side), r.Int63n(side)); !slices.Contains(list, p) {
			list = append(list, p)
		}
	}
	return list
}

// scrambled is a closed mesh that is no Delaunay mesh: a grid into whose faces vertices were put, without any look at circles.
func scrambled(t *testing.T, r *rand.Rand, k, many int) *mesh.Mesh {
	t.Helper()
	m := grid(t, k, 40000)
	for range many {
		cells := m.Dump().Faces
		c := cells[r.Intn(len(cells))]
		// Anywhere within the face.
		weights := [3]int64{1 + r.Int63n(9), 1 + r.Int63n(9), 1 + r.Int63n(9)}
		var sum api.Point
		for i, w := range weights {
			q, _ := m.Corner(c.No, i)
			sum = at(sum.X+w*q.X, sum.Y+w*q.Y)
		}
		all := weights[0] + weights[1] + weights[2]
		home, o, _ := lift.Home(at(sum.X/all, sum.Y/all), m.Side())
		v := m.AddVert(home, 100+len(m.Dump().Verts))
		m.DropFace(c.No)
		for i := range 3 {
			j := (i + 1) % 3
			if _, e := m.AddFace(tri(c.Tri.V[i], c.Tri.V[j], v, c.Tri.Off[i], c.Tri.Off[j], o)); e != api.OK {
				t.Fatal(e)
			}
		}
	}
	if m.Check() != api.OK {
		t.Fatal("no mesh")
	}
	return m
}
