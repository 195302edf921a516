package mesh_test

import (
	"math"
	"math/rand"
	"slices"
	"testing"

	"zellige/api"
	"zellige/mesh"
)

func at(x, y int64) api.Point {
	return api.Point{X: x, Y: y}
}

func off(x, y int) api.Off {
	return api.Off{X: x, Y: y}
}

// tri is a face of the vertices a, b, c, off by those.
func tri(a, b, c int, oa, ob, oc api.Off) api.Tri {
	return api.Tri{V: [3]int{a, b, c}, Off: [3]api.Off{oa, ob, oc}}
}

// flat is a face none of whose corners is off.
func flat(a, b, c int) api.Tri {
	return api.Tri{V: [3]int{a, b, c}}
}

// moved is the face with all its corners so much farther off.
func moved(t api.Tri, by api.Off) api.Tri {
	for i := range t.Off {
		t.Off[i] = plus(t.Off[i], by)
	}
	return t
}

// from is the face told from its corner i on.
func from(t api.Tri, i int) api.Tri {
	var u api.Tri
	for k := range 3 {
		u.V[k], u.Off[k] = t.V[(i+k)%3], t.Off[(i+k)%3]
	}
	return u
}

// low and high are the two halves of the square whose corners are all the vertex v.
func low(v int) api.Tri {
	return tri(v, v, v, off(0, 0), off(1, 0), off(0, 1))
}

func high(v int) api.Tri {
	return tri(v, v, v, off(1, 0), off(1, 1), off(0, 1))
}

// square are the halves of the square that goes so many sides to the right and up from the vertex v: they close up, and lie so many times over the torus.
func square(v, right, up int) []api.Tri {
	return []api.Tri{
		tri(v, v, v, off(0, 0), off(right, 0), off(0, up)),
		tri(v, v, v, off(right, 0), off(right, up), off(0, up)),
	}
}

// grid is a mesh of k by k vertices, gap apart, each square halved; each face is moved by what r tells, and told from any corner.
func grid(t *testing.T, k int, gap int64, r *rand.Rand) *pair {
	t.Helper()
	p := newPair(t, int64(k)*gap)
	for x := range k {
		for y := range k {
			p.verts(at(int64(x)*gap, int64(y)*gap))
		}
	}
	knot := func(x, y int) (int, api.Off) {
		return x%k*k + y%k, off(x/k, y/k)
	}
	for x := range k {
		for y := range k {
			a, oa := knot(x, y)
			b, ob := knot(x+1, y)
			c, oc := knot(x+1, y+1)
			d, od := knot(x, y+1)
			for _, f := range []api.Tri{tri(a, b, d, oa, ob, od), tri(b, c, d, ob, oc, od)} {
				p.put(from(moved(f, off(r.Intn(9)-4, r.Intn(9)-4)), r.Intn(3)))
			}
		}
	}
	return p
}

func (p *pair) checks(want api.Errno) {
	p.t.Helper()
	if got := p.m.Check(); got != want {
		p.t.Fatalf("Check: %d, not %d", got, want)
	}
}

// P11.4: the chapter's example.
func TestExample(t *testing.T) {
	p := newPair(t, 1)
	p.verts(at(0, 0))
	p.put(low(0), high(0))
	p.hold()
	p.checks(api.OK)
}

// P11.1: New takes sides from 1 to MaxSide; a new mesh has nothing.
func TestNew(t *testing.T) {
	for _, side := range []int64{0, -1, -2, -10, math.MinInt64, math.MinInt64 + 1, -api.MaxSide, api.MaxSide + 1, api.MaxSide * 2, api.MaxCoord, 1 << 62, math.MaxInt64} {
		if mesh.New(side) != nil {
			t.Errorf("New(%d) is a mesh", side)
		}
	}
	for _, side := range []int64{1, 2, 3, 10, 1 << 30, api.MaxSide - 1, api.MaxSide} {
		p := newPair(t, side)
		p.hold()
		d := p.m.Dump()
		if d.Side != side || len(d.Verts) != 0 || len(d.Faces) != 0 {
			t.Error(d)
		}
		p.checks(api.ErrMesh)
		if p.dropVert(0) || p.dropFace(0) {
			t.Error(side)
		}
		p.refuse(api.ErrArg, flat(0, 0, 0), flat(0, 1, 2), flat(-1, -1, -1))
	}
}

// P11.1: AddVert takes points of the first square, each number from 0 to side - 1, and any id.
func TestAddVertWhere(t *testing.T) {
	for _, side := range []int64{1, 2, 10, api.MaxSide} {
		p := newPair(t, side)
		good := []int64{0, side - 1, side / 2}
		bad := []int64{-1, -2, -side, side, side + 1, 2 * side, api.MaxCoord, math.MinInt64, math.MaxInt64}
		for _, x := range good {
			for _, c := range bad {
				for _, q := range []api.Point{at(x, c), at(c, x), at(c, c)} {
					if v := p.addVert(q, 3); v != -1 {
						t.Fatalf("side %d: AddVert(%v): %d", side, q, v)
					}
				}
			}
		}
		p.hold()
		n := 0
		for _, x := range good {
			for _, y := range good {
				for _, id := range []int{0, 5, -1, 5, math.MinInt, math.MaxInt} {
					if v := p.addVert(at(x, y), id); v != n {
						t.Fatalf("side %d: AddVert(%d %d): %d, not %d", side, x, y, v, n)
					}
					if got, ok := p.m.Vert(n); got != (api.Vert{No: n, At: at(x, y), ID: id}) || !ok {
						t.Fatal(got, ok)
					}
					n++
				}
			}
		}
		p.hold()
	}
}

// P11.1: the vertex that went last is the one whose number comes first; what it was is forgotten, and lists are by numbers all the same.
func TestVertNumbers(t *testing.T) {
	p := newPair(t, 100)
	for n := range 6 {
		if v := p.addVert(at(int64(n), 7), n+50); v != n {
			t.Fatal(v)
		}
	}
	for _, v := range []int{4, 0, 2} {
		if !p.dropVert(v) || p.dropVert(v) {
			t.Fatal(v)
		}
		if a, ok := p.m.Vert(v); a != (api.Vert{}) || ok {
			t.Fatal(a, ok)
		}
		p.hold()
	}
	for i, want := range []int{2, 0, 4, 6} {
		if v := p.addVert(at(9, int64(i)), -i); v != want {
			t.Fatal(v, want)
		}
		p.hold()
	}
	d := p.m.Dump()
	want := []api.Vert{
		{No: 0, At: at(9, 1), ID: -1}, {No: 1, At: at(1, 7), ID: 51}, {No: 2, At: at(9, 0)}, {No: 3, At: at(3, 7), ID: 53},
		{No: 4, At: at(9, 2), ID: -2}, {No: 5, At: at(5, 7), ID: 55}, {No: 6, At: at(9, 3), ID: -3},
	}
	if !slices.Equal(d.Verts, want) {
		t.Fatal(d.Verts)
	}
}

// P11.2: face numbers come back and are lent again, the last one first; lists are by numbers all the same.
func TestFaceNumbers(t *testing.T) {
	r := rand.New(rand.NewSource(1))
	p := grid(t, 3, 4, r)
	old := p.m.Dump().Faces
	if len(old) != 18 {
		t.Fatal(old)
	}
	for _, f := range []int{11, 0, 5, 17} {
		if !p.dropFace(f) || p.dropFace(f) {
			t.Fatal(f)
		}
		p.hold()
		p.checks(api.ErrMesh)
	}
	for i, want := range []int{17, 5, 0, 11} {
		// They come in another order than their old numbers have.
		back := old[[]int{5, 11, 0, 17}[i]].Tri
		if f, e := p.addFace(back); f != want || e != api.OK {
			t.Fatal(f, e, want)
		}
		p.hold()
	}
	p.checks(api.OK)
	d := p.m.Dump()
	for n, c := range d.Faces {
		was := map[int]int{17: 5, 5: 11, 11: 17}
		k, ok := was[n]
		if !ok {
			k = n
		}
		if c.No != n || c.Tri != old[k].Tri {
			t.Fatal(n, c)
		}
	}
	// Vertices and faces have an arena each.
	if v := p.addVert(at(1, 1), 0); v != 9 {
		t.Fatal(v)
	}
}

// P11.1: DropVert: of one that a face has, of one that none has any more, and that there is none of.
func TestDropVert(t *testing.T) {
	p := newPair(t, 10)
	p.verts(at(1, 1), at(5, 1), at(1, 5), at(9, 9))
	p.put(flat(0, 1, 2))
	p.put(tri(0, 2, 1, off(0, 0), off(0, 0), off(-1, 0)))
	for _, v := range []int{0, 1, 2} {
		if p.dropVert(v) {
			t.Fatal(v)
		}
	}
	p.hold()
	if !p.dropVert(3) || p.dropVert(3) {
		t.Fatal("a vertex without a face")
	}
	for _, v := range append(strange(), 4, 5) {
		if p.dropVert(v) {
			t.Fatal(v)
		}
	}
	p.hold()
	p.dropFace(0)
	if p.dropVert(0) || p.dropVert(1) || p.dropVert(2) {
		t.Fatal("the other face has them")
	}
	p.dropFace(1)
	p.hold()
	for _, v := range []int{1, 0, 2} {
		if !p.dropVert(v) || p.dropVert(v) {
			t.Fatal(v)
		}
		p.hold()
	}
	if d := p.m.Dump(); len(d.Verts) != 0 || len(d.Faces) != 0 || d.Side != 10 {
		t.Fatal(d)
	}
}

// P11.1: a vertex that a face has at two and at three corners goes when that one face goes.
func TestDropVertOfOneFace(t *testing.T) {
	p := newPair(t, 10)
	p.verts(at(3, 3), at(4, 8))
	p.put(low(0), tri(1, 1, 0, off(0, 0), off(1, 0), off(0, 1)))
	if p.dropVert(0) || p.dropVert(1) {
		t.Fatal("a face has it")
	}
	p.dropFace(0)
	if p.dropVert(0) {
		t.Fatal("a face has it")
	}
	p.dropFace(1)
	if !p.dropVert(0) || !p.dropVert(1) {
		t.Fatal("no face has it")
	}
	p.hold()
}

// P11.2: AddFace with a vertex that is not there, in each place, is ErrArg, ahead of all that is ErrMesh.
func TestAddFaceNoVertex(t *testing.T) {
	p := newPair(t, 10)
	p.verts(at(0, 0), at(5, 0), at(0, 5), at(7, 7))
	p.dropVert(3)
	p.put(flat(0, 1, 2))
	for _, no := range append(strange(), 3, 4, 5) {
		for i := range 3 {
			for _, base := range []api.Tri{flat(0, 1, 2), flat(0, 2, 1), flat(1, 1, 1), tri(0, 1, 2, off(1, 0), off(1, 0), off(1, 0)), tri(0, 1, 2, off(math.MaxInt, 0), off(0, math.MinInt), off(1<<60, 0))} {
				base.V[i] = no
				p.refuse(api.ErrArg, base)
				base.V[(i+1)%3] = no
				p.refuse(api.ErrArg, base)
			}
		}
		p.refuse(api.ErrArg, flat(no, no, no))
	}
}

// P11.2: AddFace with corners on a line, in one point, and turning right is ErrMesh; turning left it is not, from whichever corner.
func TestAddFaceTurns(t *testing.T) {
	p := newPair(t, 10)
	p.verts(at(0, 0), at(5, 0), at(0, 5), at(9, 0), at(5, 0))
	p.refuse(api.ErrMesh, flat(0, 1, 3), flat(3, 1, 0), flat(0, 0, 0), flat(0, 0, 1), flat(0, 1, 0), flat(1, 0, 0), flat(1, 4, 2), flat(2, 1, 4))
	p.refuse(api.ErrMesh, flat(0, 2, 1), flat(2, 1, 0), flat(1, 0, 2))
	p.refuse(api.ErrMesh, tri(0, 0, 0, off(0, 0), off(1, 1), off(2, 2)), tri(0, 0, 0, off(0, 0), off(1, 2), off(-1, -2)), tri(0, 0, 0, off(0, 0), off(0, 1), off(1, 0)))
	// By its offs alone the first one turns left, and lies on a line; the second one turns the other way.
	p.refuse(api.ErrMesh, tri(0, 1, 3, off(0, 0), off(1, 0), off(2, 0)), tri(1, 0, 2, off(0, 0), off(0, 0), off(0, 0)))
	for i := range 3 {
		p.put(from(flat(0, 1, 2), i))
		p.hold()
		p.dropFace(0)
	}
	// Just to the left, and just to the right, at the greatest side.
	q := newPair(t, api.MaxSide)
	far := int64(api.MaxSide - 1)
	q.verts(at(0, 0), at(far, far), at(far-1, far-1), at(far-1, far), at(far, far-1))
	q.refuse(api.ErrMesh, flat(0, 1, 2), flat(0, 2, 1), flat(0, 1, 4), flat(0, 3, 1))
	q.put(flat(0, 1, 3), flat(0, 4, 1))
	q.hold()
}

// P11.2: AddFace with an edge that is there already the same way is ErrMesh, in each place, however the faces are moved; the other way round it is no fault.
func TestAddFaceEdgeThere(t *testing.T) {
	for i := range 3 {
		for k := range 3 {
			p := newPair(t, 100)
			p.verts(at(10, 10), at(50, 10), at(30, 50), at(20, 90), at(30, 1))
			p.put(from(flat(0, 1, 2), k))
			again := from(flat(0, 1, 3), i)
			p.refuse(api.ErrMesh, again, moved(again, off(1, 0)), moved(again, off(-3, 7)))
			round := from(flat(1, 0, 4), i)
			p.put(round)
			p.hold()
			p.refuse(api.ErrMesh, moved(round, off(2, 2)), moved(from(flat(0, 1, 2), i), off(-1, 0)), flat(0, 1, 2))
			p.dropFace(0)
			p.put(again)
			p.hold()
		}
	}
}

// P11.2: an edge is how much farther off its second vertex lies, too: with another off between the same vertices it is another one.
func TestAddFaceOtherOff(t *testing.T) {
	p := newPair(t, 10)
	p.verts(at(2, 2), at(5, 2), at(3, 6))
	p.put(flat(0, 1, 2))
	p.put(tri(0, 1, 2, off(0, 0), off(1, 0), off(0, 1)), tri(0, 1, 2, off(0, 0), off(0, -1), off(2, 2)))
	p.refuse(api.ErrMesh, tri(0, 1, 2, off(0, 0), off(5, -5), off(0, 1)), tri(0, 1, 2, off(4, 4), off(4, 4), off(0, 9)))
	p.refuse(api.ErrMesh, tri(0, 1, 2, off(3, 3), off(4, 3), off(3, 4)))
	p.hold()
}

// P11.2: the same vertex at two and at three corners is no fault.
func TestAddFaceSameVertex(t *testing.T) {
	p := newPair(t, 10)
	p.verts(at(4, 4), at(6, 8))
	p.put(low(0), tri(0, 0, 1, off(0, 0), off(2, 0), off(0, 0)), tri(1, 0, 0, off(0, 0), off(0, 1), off(-1, 3)), tri(1, 0, 1, off(0, 0), off(2, 0), off(-1, 3)))
	p.hold()
	p.refuse(api.ErrMesh, tri(0, 0, 1, off(7, 7), off(8, 7), off(7, 8)), tri(0, 0, 1, off(7, 7), off(9, 7), off(7, 8)))
}

// ends tells which numbers of sides an off may have at most and at least, at that place.
func ends(place, side int64) (least, most int) {
	most = int((api.MaxCoord - place) / side)
	least = -int((api.MaxCoord + place) / side)
	return least, most
}

// P11.2: offs at the ends of what can be are taken, one beyond, and far beyond, they are ErrMesh, in each place and both ways.
func TestAddFaceEnds(t *testing.T) {
	for _, side := range []int64{1, 2, 3, 10, 1 << 30, api.MaxSide - 1, api.MaxSide} {
		for _, place := range []int64{0, side - 1, side / 2} {
			p := newPair(t, side)
			p.verts(at(place, place))
			least, most := ends(place, side)
			fits := func(base api.Tri) {
				t.Helper()
				for i := range 3 {
					p.put(from(base, i))
					p.hold()
					p.dropFace(0)
					for _, by := range []api.Off{off(most+1, 0), off(0, most+1), off(least-1, 0), off(0, least-1), off(math.MaxInt, 0), off(0, math.MinInt), off(1<<62, 1), off(1, 1<<63-1<<40)} {
						beyond := from(base, i)
						if by.X != 0 {
							beyond.Off[i].X = by.X
						}
						if by.Y != 0 {
							beyond.Off[i].Y = by.Y
						}
						p.refuse(api.ErrMesh, beyond)
					}
				}
			}
			fits(tri(0, 0, 0, off(least, least), off(most, least), off(least, most)))
			fits(tri(0, 0, 0, off(most, most), off(least, most), off(most, least)))
			fits(tri(0, 0, 0, off(most, most), off(most-1, most), off(most, most-1)))
			fits(tri(0, 0, 0, off(least, least), off(least+1, least), off(least, least+1)))
		}
	}
}

// P11.2: where a number of sides just can be for one vertex, it can't for one that lies farther.
func TestAddFaceEndsByVertex(t *testing.T) {
	p := newPair(t, api.MaxSide)
	p.verts(at(0, 0), at(1, 0), at(0, 1), at(api.MaxSide-1, api.MaxSide-1))
	p.put(tri(0, 0, 0, off(64, 64), off(63, 64), off(64, 63)))
	p.refuse(api.ErrMesh, tri(1, 0, 0, off(64, 64), off(63, 64), off(63, 63)), tri(2, 0, 0, off(64, 64), off(63, 64), off(63, 63)))
	p.put(tri(2, 0, 0, off(64, 63), off(63, 64), off(63, 63)))
	p.refuse(api.ErrMesh, tri(3, 0, 0, off(-65, -64), off(-64, -64), off(-64, -63)), tri(3, 0, 0, off(-64, -65), off(-63, -64), off(-64, -64)))
	p.put(tri(3, 0, 0, off(-65+1, -64), off(-62, -64), off(-64, -62)))
	p.hold()
}

// P11.2: Corner takes i modulo 3, below nought too; of no face it is noughts and false.
func TestCorner(t *testing.T) {
	p := newPair(t, 10)
	p.verts(at(1, 2), at(7, 3), at(4, 9))
	p.put(tri(0, 1, 2, off(-1, 4), off(0, 4), off(2, 5)))
	want := []api.Point{at(-9, 42), at(7, 43), at(24, 59)}
	for i, k := range map[int]int{0: 0, 1: 1, 2: 2, 3: 0, 4: 1, 5: 2, -1: 2, -2: 1, -3: 0, -4: 2, -5: 1, -6: 0, math.MaxInt: 1, math.MaxInt - 1: 0, math.MinInt: 1, math.MinInt + 1: 2} {
		if modulo(i) != k {
			t.Fatal(i, modulo(i), k)
		}
		if q, ok := p.m.Corner(0, i); q != want[k] || !ok {
			t.Errorf("Corner(0, %d): %v %v, not %v", i, q, ok, want[k])
		}
	}
	p.hold()
	p.dropFace(0)
	for _, f := range append(strange(), 0, 1) {
		if q, ok := p.m.Corner(f, 1); q != (api.Point{}) || ok {
			t.Error(f, q, ok)
		}
	}
}

// P11.3: Across of a face whose neighbour has the same vertices: by each of its three edges it is the same one, each time moved otherwise; i goes modulo 3.
func TestAcrossSameVertices(t *testing.T) {
	p := newPair(t, 10)
	p.verts(at(3, 4))
	p.put(low(0), moved(high(0), off(5, -2)))
	want := []struct {
		corner int
		by     api.Off
	}{{1, off(-5, 2)}, {2, off(-6, 2)}, {0, off(-5, 1)}}
	for _, i := range []int{0, 1, 2, 3, 4, 5, -1, -2, -3, 300, -300, math.MaxInt, math.MinInt} {
		w := want[modulo(i)]
		if g, k, by, ok := p.m.Across(0, i); g != 1 || k != w.corner || by != w.by || !ok {
			t.Errorf("Across(0, %d): %d %d %v %v, not 1 %d %v", i, g, k, by, ok, w.corner, w.by)
		}
		if f, k, by, ok := p.m.Across(1, w.corner); f != 0 || k != modulo(i) || plus(by, w.by) != off(0, 0) || !ok {
			t.Errorf("Across(1, %d): %d %d %v %v", w.corner, f, k, by, ok)
		}
	}
	p.hold()
}

// P11.3: two faces that have an edge in common, between three and four vertices, moved alike and apart.
func TestAcrossMoved(t *testing.T) {
	for i := range 3 {
		for k := range 3 {
			for _, by := range []api.Off{off(0, 0), off(1, 0), off(0, -1), off(-30, 47)} {
				p := newPair(t, 10)
				p.verts(at(1, 1), at(8, 1), at(2, 7), at(9, 9))
				p.put(from(flat(0, 1, 2), i), moved(from(flat(2, 1, 3), k), by))
				g, corner, back, ok := p.m.Across(0, (3-i)%3)
				if g != 1 || corner != (5-k)%3 || plus(by, back) != off(0, 0) || !ok {
					t.Fatal(i, k, by, g, corner, back, ok)
				}
				if f, corner, there, ok := p.m.Across(1, (5-k)%3); f != 0 || corner != (3-i)%3 || there != by || !ok {
					t.Fatal(i, k, by, f, corner, there, ok)
				}
				p.hold()
			}
		}
	}
}

// P11.3: the neighbour's copy that is across lies by some sides off, where the neighbour itself lies elsewhere; a face is never across from itself.
func TestAcrossNotItself(t *testing.T) {
	for seed := range int64(6) {
		r := rand.New(rand.NewSource(seed))
		p := grid(t, 1+int(seed)%3, 5, r)
		for _, c := range p.m.Dump().Faces {
			for i := range 3 {
				if g, _, _, ok := p.m.Across(c.No, i); g == c.No || !ok {
					t.Fatal(c, i, g, ok)
				}
			}
		}
		p.hold()
	}
}

// P11.3: where there is none across, and where there is no face, Across is -1, 0, 0 0 and false.
func TestAcrossNone(t *testing.T) {
	none := func(p *pair, f, i int) {
		t.Helper()
		if g, k, by, ok := p.m.Across(f, i); g != -1 || k != 0 || by != off(0, 0) || ok {
			t.Errorf("Across(%d, %d): %d %d %v %v", f, i, g, k, by, ok)
		}
	}
	p := newPair(t, 10)
	p.verts(at(1, 1), at(8, 1), at(2, 7), at(9, 9))
	p.put(flat(0, 1, 2))
	for _, i := range []int{-2, -1, 0, 1, 2, 3} {
		none(p, 0, i)
	}
	// The same two vertices, but the second one otherwise off: another edge.
	p.put(tri(2, 1, 3, off(0, 0), off(1, 0), off(1, 1)))
	none(p, 0, 0)
	p.hold()
	p.put(flat(2, 1, 3))
	if g, k, by, ok := p.m.Across(0, 0); g != 2 || k != 2 || by != off(0, 0) || !ok {
		t.Fatal(g, k, by, ok)
	}
	p.dropFace(2)
	none(p, 0, 0)
	for _, f := range append(strange(), 2, 3, 4) {
		for i := -1; i < 3; i++ {
			none(p, f, i)
		}
	}
	p.hold()
	// At one place, but of other vertices: no edge in common.
	q := newPair(t, 10)
	q.verts(at(1, 1), at(8, 1), at(2, 7), at(1, 1), at(8, 1), at(4, 0))
	q.put(flat(0, 1, 2), flat(4, 3, 5))
	none(q, 0, 2)
	q.hold()
}

// P11.3: Around is each face once, rising, of a vertex that has one, two and three corners of one face.
func TestAround(t *testing.T) {
	p := newPair(t, 100)
	p.verts(at(50, 50), at(80, 50), at(50, 80), at(7, 7))
	p.put(low(0), tri(0, 0, 1, off(0, 0), off(2, 0), off(1, 1)), flat(0, 1, 2), tri(1, 1, 2, off(0, 0), off(2, 0), off(0, 0)))
	want := [][]int{{0, 1, 2}, {1, 2, 3}, {2, 3}, nil}
	for v, l := range want {
		if got := p.m.Around(v); !slices.Equal(got, l) {
			t.Errorf("Around(%d): %v, not %v", v, got, l)
		}
	}
	p.hold()
	// The numbers come back in another order than they went: rising all the same.
	p.dropFace(2)
	p.dropFace(0)
	p.put(flat(0, 1, 2), low(0))
	for v, l := range [][]int{{0, 1, 2}, {0, 1, 3}, {0, 3}, nil} {
		if got := p.m.Around(v); !slices.Equal(got, l) {
			t.Errorf("Around(%d): %v, not %v", v, got, l)
		}
	}
	for _, v := range append(strange(), 4, 5) {
		if got := p.m.Around(v); len(got) != 0 {
			t.Errorf("Around(%d): %v", v, got)
		}
	}
	// A vertex's number that is lent again has none of the faces that the old one had.
	p.dropFace(0)
	p.dropFace(3)
	p.dropVert(2)
	if v := p.addVert(at(1, 1), 0); v != 2 || len(p.m.Around(2)) != 0 {
		t.Fatal(v, p.m.Around(2))
	}
	p.hold()
}

// P11.4: Dump behind each act, and each time as new memory.
func TestDump(t *testing.T) {
	p := newPair(t, 10)
	empty := p.m.Dump()
	p.verts(at(1, 1), at(8, 1), at(2, 7))
	three := p.m.Dump()
	p.put(flat(0, 1, 2))
	one := p.m.Dump()
	p.dropFace(0)
	p.dropVert(1)
	two := p.m.Dump()
	verts := []api.Vert{{No: 0, At: at(1, 1)}, {No: 1, At: at(8, 1)}, {No: 2, At: at(2, 7)}}
	hold := func() {
		t.Helper()
		if empty.Side != 10 || len(empty.Verts)+len(empty.Faces) != 0 {
			t.Fatal(empty)
		}
		if !slices.Equal(three.Verts, verts) || len(three.Faces) != 0 {
			t.Fatal(three)
		}
		if !slices.Equal(one.Verts, verts) || !slices.Equal(one.Faces, []api.Cell{{No: 0, Tri: flat(0, 1, 2)}}) {
			t.Fatal(one)
		}
		if !slices.Equal(two.Verts, []api.Vert{verts[0], verts[2]}) || len(two.Faces) != 0 {
			t.Fatal(two)
		}
	}
	hold()
	p.verts(at(3, 3))
	p.put(from(flat(0, 1, 2), 1))
	hold()
	for range 2 {
		again := p.m.Dump()
		scribble(again)
		p.hold()
	}
	hold()
}

// scribble writes over all lists of a dump, and their spare room.
func scribble(d api.Dump) {
	verts, faces := d.Verts[:cap(d.Verts)], d.Faces[:cap(d.Faces)]
	for i := range verts {
		verts[i] = api.Vert{No: -9, At: at(-9, -9), ID: -9}
	}
	for i := range faces {
		faces[i] = api.Cell{No: -9, Tri: flat(-9, -9, -9)}
	}
}

// Memory: what Around answers is new memory, its spare room too.
func TestAroundMemory(t *testing.T) {
	p := grid(t, 3, 5, rand.New(rand.NewSource(5)))
	for v := range 9 {
		first := p.m.Around(v)
		kept := slices.Clone(first)
		second := p.m.Around(v)
		first = first[:cap(first)]
		for i := range first {
			first[i] = -9
		}
		if !slices.Equal(second, kept) {
			t.Fatal(second, kept)
		}
		p.hold()
	}
}

// P11.4: Check of a whole mesh is OK, at side 1, at MaxSide and between, however faces are moved; one face less, or one vertex more, it is ErrMesh.
func TestCheck(t *testing.T) {
	for _, side := range []int64{1, 2, 7, 1 << 20, 1<<32 + 1, api.MaxSide - 1, api.MaxSide} {
		p := newPair(t, side)
		p.verts(at(side-1, side/2))
		p.put(low(0))
		p.checks(api.ErrMesh)
		p.put(moved(high(0), off(2, -3)))
		p.checks(api.OK)
		p.hold()
		p.verts(at(side-1, side/2))
		p.checks(api.ErrMesh)
		p.hold()
		p.dropVert(1)
		p.checks(api.OK)
		p.dropFace(0)
		p.checks(api.ErrMesh)
		p.dropFace(1)
		p.checks(api.ErrMesh)
		p.dropVert(0)
		p.checks(api.ErrMesh)
		p.hold()
	}
}

// P11.4: where all edges have a face across and all vertices a face, but the areas are too great, Check is ErrMesh; twice the area of MaxSide is so in the upper word alone.
func TestCheckTooGreat(t *testing.T) {
	for _, side := range []int64{1, 2, 10, 1 << 32, api.MaxSide} {
		for _, by := range [][2]int{{2, 1}, {1, 2}, {2, 2}, {5, 1}, {1, 4}} {
			p := newPair(t, side)
			p.verts(at(0, 0))
			p.put(square(0, by[0], by[1])...)
			p.checks(api.ErrMesh)
			p.hold()
		}
		// Two whole meshes, one over the other.
		p := newPair(t, side)
		p.verts(at(0, 0), at(0, 0))
		p.put(square(0, 1, 1)...)
		p.checks(api.ErrMesh)
		p.put(low(1))
		p.checks(api.ErrMesh)
		p.put(high(1))
		p.checks(api.ErrMesh)
		p.hold()
		p.dropFace(0)
		p.dropFace(1)
		p.checks(api.ErrMesh)
		p.dropVert(0)
		p.checks(api.OK)
		p.hold()
	}
	// These lie askew, far over the first square, and yet have its area.
	p := newPair(t, 3)
	p.verts(at(1, 2))
	p.put(tri(0, 0, 0, off(0, 0), off(3, 1), off(2, 1)), tri(0, 0, 0, off(3, 1), off(5, 2), off(2, 1)))
	p.checks(api.OK)
	p.hold()
}

// P11.4: where the areas are too small, and where they are right, but an edge has no face across, Check is ErrMesh.
func TestCheckOpen(t *testing.T) {
	p := newPair(t, 4)
	p.checks(api.ErrMesh)
	p.verts(at(2, 3))
	p.checks(api.ErrMesh)
	p.put(tri(0, 0, 0, off(0, 0), off(2, 0), off(0, 1)))
	p.checks(api.ErrMesh)
	p.hold()
	q := newPair(t, 4)
	q.verts(at(2, 3))
	// Both together have the torus's area, and no edge in common.
	q.put(low(0), tri(0, 0, 0, off(0, 0), off(2, 1), off(1, 1)))
	q.checks(api.ErrMesh)
	q.hold()
	// A whole mesh without one of its vertices' stars, and with it.
	r := rand.New(rand.NewSource(2))
	g := grid(t, 4, 3, r)
	g.checks(api.OK)
	star := g.m.Around(5)
	var gone []api.Tri
	for _, f := range star {
		u, _ := g.m.Face(f)
		gone = append(gone, u)
		g.dropFace(f)
	}
	g.checks(api.ErrMesh)
	g.dropVert(5)
	g.checks(api.ErrMesh)
	g.hold()
	g.addVert(at(3, 3), 0)
	g.put(gone...)
	g.checks(api.OK)
	g.hold()
}

// P11.4: with just one edge open, by whichever face, Check is ErrMesh.
func TestCheckEachFace(t *testing.T) {
	p := grid(t, 4, 2, rand.New(rand.NewSource(3)))
	for _, c := range p.m.Dump().Faces {
		p.checks(api.OK)
		p.dropFace(c.No)
		p.checks(api.ErrMesh)
		// The same face is put, seen from elsewhere.
		p.put(from(moved(c.Tri, off(c.No, -c.No)), c.No%3))
	}
	p.checks(api.OK)
	p.hold()
}

// P11.4: of a nil mesh: 0, -1, false, none, ErrArg.
func TestNil(t *testing.T) {
	var m *mesh.Mesh
	for _, n := range append(strange(), 0, 1) {
		if a, ok := m.Vert(n); a != (api.Vert{}) || ok {
			t.Error(a, ok)
		}
		if u, ok := m.Face(n); u != (api.Tri{}) || ok {
			t.Error(u, ok)
		}
		if q, ok := m.Corner(n, n); q != (api.Point{}) || ok {
			t.Error(q, ok)
		}
		if g, k, by, ok := m.Across(n, n); g != -1 || k != 0 || by != off(0, 0) || ok {
			t.Error(g, k, by, ok)
		}
		if m.DropVert(n) || m.DropFace(n) || len(m.Around(n)) != 0 {
			t.Error(n)
		}
		if v := m.AddVert(at(int64(n), 0), n); v != -1 {
			t.Error(v)
		}
		if f, e := m.AddFace(flat(n, n, n)); f != -1 || e != api.ErrArg {
			t.Error(f, e)
		}
	}
	if d := m.Dump(); m.Side() != 0 || d.Side != 0 || len(d.Verts) != 0 || len(d.Faces) != 0 {
		t.Error(d)
	}
	if e := m.Check(); e != api.ErrArg {
		t.Error(e)
	}
}

// Ends: a mesh that New didn't make answers something, and nothing panics.
func TestZeroValue(t *testing.T) {
	var m mesh.Mesh
	m.Side()
	m.AddVert(at(0, 0), 0)
	m.DropVert(0)
	m.Vert(0)
	m.AddFace(low(0))
	m.DropFace(0)
	m.Face(0)
	m.Corner(0, 0)
	m.Across(0, 0)
	m.Around(0)
	m.Dump()
	m.Check()
}

// From arguments alone: what is done to one mesh is not seen in another one.
func TestApart(t *testing.T) {
	a, b := newPair(t, 10), newPair(t, 10)
	a.verts(at(1, 1))
	b.hold()
	b.verts(at(2, 2), at(3, 3))
	a.put(low(0), high(0))
	b.hold()
	b.put(low(0))
	a.dropFace(1)
	a.hold()
	b.hold()
}

// P11.1 to P11.5: grids of all kinds, as they stand, and with vertices put into faces and taken out again.
func TestGrids(t *testing.T) {
	for seed := range int64(12) {
		r := rand.New(rand.NewSource(seed))
		k, gap := 1+int(seed)%4, []int64{3, 6, 1 << 20, api.MaxSide / 4}[seed/3]
		p := grid(t, k, gap, r)
		p.checks(api.OK)
		p.hold()
		for range 10 {
			cells := p.m.Dump().Faces
			p.split(cells[r.Intn(len(cells))].No, r)
			p.checks(api.OK)
		}
		p.hold()
		for _, v := range p.m.Dump().Verts[k*k:] {
			p.unsplit(v.No)
			p.checks(api.OK)
		}
		p.hold()
	}
}

// split puts a vertex near the middle of a face, and three faces for one, if the point lies within it.
func (p *pair) split(f int, r *rand.Rand) {
	t, _ := p.m.Face(f)
	var sum api.Point
	for i := range 3 {
		q, _ := p.m.Corner(f, i)
		sum.X, sum.Y = sum.X+q.X, sum.Y+q.Y
	}
	home := func(c int64) (int64, int) {
		rest := (c%p.w.side + p.w.side) % p.w.side
		return rest, int((c - rest) / p.w.side)
	}
	x, right := home(sum.X / 3)
	y, up := home(sum.Y / 3)
	v := p.addVert(at(x, y), r.Intn(100))
	parts := make([]api.Tri, 0, 3)
	for i := range 3 {
		k := (i + 1) % 3
		part := tri(t.V[i], t.V[k], v, t.Off[i], t.Off[k], off(right, up))
		if p.w.area2(part).Sign() <= 0 {
			p.dropVert(v)
			return
		}
		parts = append(parts, moved(from(part, r.Intn(3)), off(r.Intn(5)-2, r.Intn(5)-2)))
	}
	p.dropFace(f)
	p.put(parts...)
}

// unsplit takes a vertex of three faces out of them; one that has more stays.
func (p *pair) unsplit(v int) {
	faces := p.m.Around(v)
	if len(faces) != 3 {
		return
	}
	t, _ := p.m.Face(faces[0])
	i := slices.Index(t.V[:], v)
	next, behind := (i+1)%3, (i+2)%3
	g, k, by, _ := p.m.Across(faces[0], next)
	u, _ := p.m.Face(g)
	whole := tri(t.V[next], t.V[behind], u.V[k], t.Off[next], t.Off[behind], plus(u.Off[k], by))
	for _, f := range faces {
		p.dropFace(f)
	}
	if !p.dropVert(v) {
		p.t.Fatal(v)
	}
	p.put(whole)
}

// act does one thing to both mesh and model, told by numbers.
func (p *pair) act(what, a, b, c, d int) {
	p.t.Helper()
	switch what % 16 {
	case 0, 1:
		// One in so many lies just beyond the first square.
		p.addVert(at(int64(a)%(p.w.side+2), int64(b)%(p.w.side+2)), c)
	case 2:
		p.dropVert(a%(p.w.vertNos.Top()+3) - 1)
	case 3, 4:
		p.dropFace(a%(p.w.faceNos.Top()+3) - 1)
	default:
		many := p.w.vertNos.Top() + what%2
		t := flat(a, b, c)
		for i := range 3 {
			t.V[i] %= max(1, many)
			t.Off[i] = off(d>>(4*i)%3-1, d>>(4*i+2)%3-1)
		}
		p.addFace(t)
	}
}

// P11.1 to P11.5: long runs of whatever is done, at small sides, so that much is refused, much is there already and much is across.
func TestRuns(t *testing.T) {
	faces, across := 0, 0
	for seed := range int64(40) {
		r := rand.New(rand.NewSource(seed))
		p := newPair(t, 1+seed%5)
		for step := range 400 {
			p.act(r.Intn(80), r.Intn(1<<16), r.Intn(1<<16), r.Intn(1<<16), r.Intn(1<<16))
			if step%8 == 0 {
				p.hold()
			}
			faces = max(faces, len(p.w.faces))
			for f := range p.w.faces {
				if _, _, _, ok := p.m.Across(f, step); ok {
					across++
				}
			}
		}
		p.hold()
	}
	if faces < 20 || across < 1000 {
		t.Fatalf("%d faces at most, %d times one across: too few to tell anything", faces, across)
	}
}

// P11.2 and P11.3: a vertex with many faces: each act is quick enough, in whichever order numbers come back.
func TestMany(t *testing.T) {
	const many = 60000
	m := mesh.New(api.MaxSide)
	hub := m.AddVert(at(0, 0), 0)
	for x := range int64(many + 1) {
		m.AddVert(at(x, 1<<30), 0)
	}
	fan := func(i int) api.Tri { return flat(hub, i+2, i+1) }
	for i := range many {
		if f, e := m.AddFace(fan(i)); f != i || e != api.OK {
			t.Fatal(f, e)
		}
	}
	for round := range 2 {
		around := m.Around(hub)
		if len(around) != many || !slices.IsSorted(around) || around[0] != 0 || around[many-1] != many-1 {
			t.Fatal(len(around))
		}
		for f := range many {
			if !m.DropFace(f) {
				t.Fatal(f)
			}
		}
		if len(m.Around(hub)) != 0 {
			t.Fatal(round)
		}
		for i := range many {
			if f, e := m.AddFace(fan(i)); f != many-1-i || e != api.OK {
				t.Fatal(f, e)
			}
		}
		// The numbers turned about: the second round turns them back.
		for i := range many {
			m.DropFace(i)
		}
		for i := many - 1; i >= 0; i-- {
			m.AddFace(fan(i))
		}
	}
	if f, i, by, ok := m.Across(7, 1); f != 6 || i != 2 || by != off(0, 0) || !ok {
		t.Fatal(f, i, by, ok)
	}
	if m.DropVert(hub) || m.Check() != api.ErrMesh {
		t.Fatal("hub")
	}
}

// FuzzAll: any row of acts goes as the words say (P11.1 to P11.5).
func FuzzAll(f *testing.F) {
	f.Add(int64(2), []byte{0, 5, 5, 0, 0, 3, 0, 0, 0, 9, 3, 0, 0, 0, 99})
	f.Add(int64(1), []byte{0, 4, 4, 0, 0, 0, 4, 4, 1, 0, 4, 0, 1, 0, 77, 2, 0, 0, 0, 0, 1, 6, 0, 0, 0})
	f.Fuzz(func(t *testing.T, side int64, acts []byte) {
		if side < 1 || side > 9 {
			side = 3
		}
		p := newPair(t, side)
		for i := 0; i+4 < len(acts) && i < 1000; i += 5 {
			p.act(int(acts[i]), int(acts[i+1]), int(acts[i+2]), int(acts[i+3]), int(acts[i+4])*257)
		}
		p.hold()
	})
}
