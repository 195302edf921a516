package mesh_test

import (
	"math/big"
	"slices"
	"testing"

	"zellige/api"
	"zellige/arena"
	"zellige/mesh"
)

// model is a mesh by the chapter's words alone: all faces are looked through each time, and all reckoning is math/big's.
type model struct {
	side             int64
	vertNos, faceNos *arena.Arena
	verts            map[int]api.Vert
	faces            map[int]api.Tri
}

func newModel(side int64) *model {
	return &model{side: side, vertNos: arena.New(), faceNos: arena.New(), verts: map[int]api.Vert{}, faces: map[int]api.Tri{}}
}

func (m *model) addVert(p api.Point, id int) int {
	if p.X < 0 || p.Y < 0 || p.X > m.side-1 || p.Y > m.side-1 {
		return -1
	}
	v := m.vertNos.Take()
	m.verts[v] = api.Vert{No: v, At: p, ID: id}
	return v
}

func (m *model) dropVert(v int) bool {
	if _, ok := m.verts[v]; !ok || len(m.around(v)) > 0 {
		return false
	}
	delete(m.verts, v)
	return m.vertNos.Free(v)
}

// spot is a corner's numbers; whether they can be is asked elsewhere.
func (m *model) spot(t api.Tri, i int) (x, y *big.Int) {
	along := func(at int64, sides int) *big.Int {
		far := new(big.Int).Mul(big.NewInt(int64(sides)), big.NewInt(m.side))
		return far.Add(far, big.NewInt(at))
	}
	p := m.verts[t.V[i]].At
	return along(p.X, t.Off[i].X), along(p.Y, t.Off[i].Y)
}

// area2 is by the shoelace rule.
func (m *model) area2(t api.Tri) *big.Int {
	sum := new(big.Int)
	for i := range 3 {
		ax, ay := m.spot(t, i)
		bx, by := m.spot(t, (i+1)%3)
		sum.Add(sum, new(big.Int).Mul(ax, by))
		sum.Sub(sum, new(big.Int).Mul(ay, bx))
	}
	return sum
}

func (m *model) canBe(t api.Tri) bool {
	most := big.NewInt(1 << 40)
	for i := range 3 {
		x, y := m.spot(t, i)
		if x.CmpAbs(most) > 0 || y.CmpAbs(most) > 0 {
			return false
		}
	}
	return true
}

func (m *model) addFace(t api.Tri) (int, api.Errno) {
	for _, v := range t.V {
		if _, ok := m.verts[v]; !ok {
			return -1, api.ErrArg
		}
	}
	if !m.canBe(t) || m.area2(t).Sign() <= 0 {
		return -1, api.ErrMesh
	}
	for _, u := range m.faces {
		for i := range 3 {
			for k := range 3 {
				if sameEdge(t, i, u, k) {
					return -1, api.ErrMesh
				}
			}
		}
	}
	f := m.faceNos.Take()
	m.faces[f] = t
	return f, api.OK
}

// sameEdge: whether the edge from t's corner i is that from u's corner k.
func sameEdge(t api.Tri, i int, u api.Tri, k int) bool {
	by := minus(t.Off[i], u.Off[k])
	i1, k1 := (i+1)%3, (k+1)%3
	return t.V[i] == u.V[k] && t.V[i1] == u.V[k1] && t.Off[i1] == plus(u.Off[k1], by)
}

func (m *model) dropFace(f int) bool {
	if _, ok := m.faces[f]; !ok {
		return false
	}
	delete(m.faces, f)
	return m.faceNos.Free(f)
}

func (m *model) corner(f, i int) (api.Point, bool) {
	t, ok := m.faces[f]
	if !ok {
		return api.Point{}, false
	}
	x, y := m.spot(t, modulo(i))
	return api.Point{X: x.Int64(), Y: y.Int64()}, true
}

// across moves each face so that its edge's beginning lies at the end of f's edge, and looks whether its end then lies at the beginning.
func (m *model) across(f, i int) (int, int, api.Off, bool) {
	t, ok := m.faces[f]
	if !ok {
		return -1, 0, api.Off{}, false
	}
	from, to := (modulo(i)+1)%3, (modulo(i)+2)%3
	for g, u := range m.faces {
		for k := range 3 {
			end := (k + 1) % 3
			by := minus(t.Off[to], u.Off[k])
			if u.V[k] == t.V[to] && u.V[end] == t.V[from] && plus(u.Off[end], by) == t.Off[from] {
				return g, (k + 2) % 3, by, true
			}
		}
	}
	return -1, 0, api.Off{}, false
}

func (m *model) around(v int) []int {
	var all []int
	for f, t := range m.faces {
		if slices.Contains(t.V[:], v) {
			all = append(all, f)
		}
	}
	slices.Sort(all)
	return all
}

func (m *model) check() api.Errno {
	for v := range m.verts {
		if len(m.around(v)) == 0 {
			return api.ErrMesh
		}
	}
	left := new(big.Int).Mul(big.NewInt(m.side), big.NewInt(m.side))
	left.Lsh(left, 1)
	for f, t := range m.faces {
		left.Sub(left, m.area2(t))
		for i := range 3 {
			if _, _, _, ok := m.across(f, i); !ok {
				return api.ErrMesh
			}
		}
	}
	if left.Sign() != 0 {
		return api.ErrMesh
	}
	return api.OK
}

func plus(a, b api.Off) api.Off {
	return api.Off{X: a.X + b.X, Y: a.Y + b.Y}
}

func minus(a, b api.Off) api.Off {
	return api.Off{X: a.X - b.X, Y: a.Y - b.Y}
}

// modulo is i modulo 3, going step by step where it is below nought.
func modulo(i int) int {
	i %= 3
	for i < 0 {
		i += 3
	}
	return i
}

// pair is a mesh and its model, to both of which the same is done; what they answer is held against each other.
type pair struct {
	t *testing.T
	m *mesh.Mesh
	w *model
}

func newPair(t *testing.T, side int64) *pair {
	t.Helper()
	m := mesh.New(side)
	if m == nil {
		t.Fatalf("New(%d): nil", side)
	}
	return &pair{t: t, m: m, w: newModel(side)}
}

func (p *pair) addVert(at api.Point, id int) int {
	p.t.Helper()
	got, want := p.m.AddVert(at, id), p.w.addVert(at, id)
	if got != want {
		p.t.Fatalf("AddVert(%v, %d): %d, not %d", at, id, got, want)
	}
	return got
}

func (p *pair) dropVert(v int) bool {
	p.t.Helper()
	got, want := p.m.DropVert(v), p.w.dropVert(v)
	if got != want {
		p.t.Fatalf("DropVert(%d): %v, not %v", v, got, want)
	}
	return got
}

func (p *pair) addFace(t api.Tri) (int, api.Errno) {
	p.t.Helper()
	f, e := p.m.AddFace(t)
	g, d := p.w.addFace(t)
	if f != g || e != d {
		p.t.Fatalf("AddFace(%v): %d %d, not %d %d", t, f, e, g, d)
	}
	return f, e
}

func (p *pair) dropFace(f int) bool {
	p.t.Helper()
	got, want := p.m.DropFace(f), p.w.dropFace(f)
	if got != want {
		p.t.Fatalf("DropFace(%d): %v, not %v", f, got, want)
	}
	return got
}

// verts puts vertices, whose numbers are to be 0 and on.
func (p *pair) verts(at ...api.Point) {
	p.t.Helper()
	for _, q := range at {
		p.addVert(q, 0)
	}
}

// put puts faces that are to be taken.
func (p *pair) put(faces ...api.Tri) {
	p.t.Helper()
	for _, t := range faces {
		if f, e := p.addFace(t); e != api.OK {
			p.t.Fatalf("AddFace(%v): %d %d", t, f, e)
		}
	}
}

// refuse puts faces that are to be refused with that error, and holds all that is told against the model ahead and behind.
func (p *pair) refuse(want api.Errno, faces ...api.Tri) {
	p.t.Helper()
	for _, t := range faces {
		ahead := p.m.Dump()
		if f, e := p.addFace(t); f != -1 || e != want {
			p.t.Fatalf("AddFace(%v): %d %d, not -1 %d", t, f, e, want)
		}
		p.same(ahead)
	}
	p.hold()
}

// same holds a dump against what is told now.
func (p *pair) same(d api.Dump) {
	p.t.Helper()
	if got := p.m.Dump(); got.Side != d.Side || !slices.Equal(got.Verts, d.Verts) || !slices.Equal(got.Faces, d.Faces) {
		p.t.Fatalf("Dump: %v, not %v", got, d)
	}
}

// strange are numbers that no mesh of these tests ever lends.
func strange() []int {
	return []int{-1, -2, -3, -1 << 31, -1 << 63, -1<<63 + 1, 1 << 20, 1 << 31, 1 << 32, 1<<63 - 2, 1<<63 - 1}
}

// hold holds all that the mesh tells against its model.
func (p *pair) hold() {
	p.t.Helper()
	if p.m.Side() != p.w.side {
		p.t.Fatalf("Side: %d, not %d", p.m.Side(), p.w.side)
	}
	want := api.Dump{Side: p.w.side}
	for v := range p.w.vertNos.Top() + 2 {
		p.holdVert(v)
		if a, ok := p.w.verts[v]; ok {
			want.Verts = append(want.Verts, a)
		}
	}
	for f := range p.w.faceNos.Top() + 2 {
		p.holdFace(f, -4, -1, 0, 1, 2, 3, 5)
		if t, ok := p.w.faces[f]; ok {
			want.Faces = append(want.Faces, api.Cell{No: f, Tri: t})
		}
	}
	for _, n := range strange() {
		p.holdVert(n)
		p.holdFace(n, 0, 1, 2)
	}
	p.same(want)
	if got, e := p.m.Check(), p.w.check(); got != e {
		p.t.Fatalf("Check: %d, not %d", got, e)
	}
}

// holdVert holds what is told of one number of a vertex.
func (p *pair) holdVert(v int) {
	p.t.Helper()
	want, there := p.w.verts[v]
	if got, ok := p.m.Vert(v); got != want || ok != there {
		p.t.Fatalf("Vert(%d): %v %v, not %v %v", v, got, ok, want, there)
	}
	if got, want := p.m.Around(v), p.w.around(v); !slices.Equal(got, want) {
		p.t.Fatalf("Around(%d): %v, not %v", v, got, want)
	}
}

// holdFace holds what is told of one number of a face, and of those corners.
func (p *pair) holdFace(f int, corners ...int) {
	p.t.Helper()
	want, there := p.w.faces[f]
	if got, ok := p.m.Face(f); got != want || ok != there {
		p.t.Fatalf("Face(%d): %v %v, not %v %v", f, got, ok, want, there)
	}
	for _, i := range corners {
		want, there := p.w.corner(f, i)
		if got, ok := p.m.Corner(f, i); got != want || ok != there {
			p.t.Fatalf("Corner(%d, %d): %v %v, not %v %v", f, i, got, ok, want, there)
		}
		g, k, by, found := p.m.Across(f, i)
		g2, k2, by2, found2 := p.w.across(f, i)
		if g != g2 || k != k2 || by != by2 || found != found2 {
			p.t.Fatalf("Across(%d, %d): %d %d %v %v, not %d %d %v %v", f, i, g, k, by, found, g2, k2, by2, found2)
		}
		if found {
			p.backAgain(f, i)
		}
	}
}

// backAgain: P11.5: across and across again is where one was, moved by nought; and both edges are one: the moved face's corners lie where f's do.
func (p *pair) backAgain(f, i int) {
	p.t.Helper()
	g, k, by, _ := p.m.Across(f, i)
	h, j, back, ok := p.m.Across(g, k)
	if h != f || j != modulo(i) || plus(by, back) != (api.Off{}) || !ok {
		p.t.Fatalf("Across(%d, %d): %d %d %v; from there: %d %d %v %v", f, i, g, k, by, h, j, back, ok)
	}
	for d := 1; d <= 2; d++ {
		a, _ := p.m.Corner(f, modulo(i)+d)
		b, _ := p.m.Corner(g, k+3-d)
		b.X += int64(by.X) * p.w.side
		b.Y += int64(by.Y) * p.w.side
		if a != b {
			p.t.Fatalf("Across(%d, %d): %d %d %v: edges from %v and %v", f, i, g, k, by, a, b)
		}
	}
}
