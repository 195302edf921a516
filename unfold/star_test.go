package unfold_test

import (
	"math"
	"math/rand"
	"slices"
	"testing"

	"zellige/api"
	"zellige/unfold"
)

// fan is the face at the id 0, whose other corners are these, not off.
func fan(second, third int) api.Tri {
	return tri(0, second, third, off(0, 0), off(0, 0), off(0, 0))
}

// fans are such faces, of second and third corners one behind the other.
func fans(corners ...int) []api.Tri {
	var l []api.Tri
	for i := 0; i < len(corners); i += 2 {
		l = append(l, fan(corners[i], corners[i+1]))
	}
	return l
}

// star asks Star of 0, which is to tell these.
func star(t *testing.T, l []api.Tri, want ...api.Tri) {
	t.Helper()
	if got, ok := holdStar(t, l, 0); !ok || !slices.Equal(got, want) {
		t.Fatalf("Star(%v, 0): %v %v, not %v", l, got, ok, want)
	}
}

// noStar asks Star, which is to tell none and false.
func noStar(t *testing.T, l []api.Tri, id int) {
	t.Helper()
	if got, ok := holdStar(t, l, id); ok || got != nil {
		t.Fatalf("Star(%v, %d): %v %v", l, id, got, ok)
	}
}

// Example 1: of one site both faces come thrice.
func TestStarExample(t *testing.T) {
	l := []api.Tri{
		tri(0, 0, 0, off(0, 0), off(-1, 0), off(0, -1)),
		tri(0, 0, 0, off(0, 0), off(-1, 1), off(-1, 0)),
	}
	at := func(second, third api.Off) api.Tri { return tri(0, 0, 0, off(0, 0), second, third) }
	want := []api.Tri{
		at(off(-1, 0), off(0, -1)), at(off(0, -1), off(1, -1)), at(off(1, -1), off(1, 0)),
		at(off(1, 0), off(0, 1)), at(off(0, 1), off(-1, 1)), at(off(-1, 1), off(-1, 0)),
	}
	star(t, l, want...)
	// However they are told.
	r := rand.New(rand.NewSource(1))
	for range 100 {
		star(t, shuffled(r, l), want...)
	}
}

// P18.3: none and false of an id without faces.
func TestStarNone(t *testing.T) {
	noStar(t, nil, 0)
	noStar(t, []api.Tri{}, 0)
	l := laid(t, 10, []api.Place{place(3, 1, 1), place(8, 5, 5)})
	for _, id := range []int{0, 1, 2, 4, 7, 9, -1, -3, math.MinInt64, math.MaxInt64} {
		noStar(t, l, id)
	}
}

// P18.3: the first one stands ahead of all others, wherever it is in the list; then the one whose second corner is the last one's third.
func TestStarOrder(t *testing.T) {
	want := fans(1, 5, 5, 3, 3, 9, 9, 1)
	for k := range 4 {
		star(t, append(slices.Clone(want[k:]), want[:k]...), want...)
	}
	star(t, fans(9, 1, 3, 9, 5, 3, 1, 5), want...)
	// A face alone that follows itself.
	star(t, fans(4, 4), fan(4, 4))
	// By the second corner's off to the right, then up, then by the third corner; the id comes ahead of all.
	u := tri(0, 1, 1, off(0, 0), off(-1, 2), off(0, -5))
	v := tri(0, 1, 1, off(0, 0), off(0, -5), off(0, 7))
	w := tri(0, 1, -2, off(0, 0), off(0, 7), off(3, 3))
	x := tri(0, -2, 1, off(0, 0), off(3, 3), off(-1, 2))
	star(t, []api.Tri{u, v, w, x}, x, u, v, w)
	// Other ids' faces are left out.
	star(t, []api.Tri{tri(1, 2, 3, off(0, 0), off(1, 0), off(0, 1)), w, u, tri(7, 7, 7, off(0, 0), off(1, 0), off(0, 1)), x, v}, x, u, v, w)
}

// P18.3: a corner follows just where both the vertex and both offs are the same.
func TestStarSameCorner(t *testing.T) {
	u := tri(0, 1, 2, off(0, 0), off(1, 1), off(5, 6))
	for _, c := range []struct {
		v  int
		o  api.Off
		ok bool
	}{
		{2, off(5, 6), true}, {3, off(5, 6), false}, {1, off(5, 6), false}, {2, off(4, 6), false}, {2, off(5, 7), false}, {2, off(6, 5), false}, {2, off(0, 0), false},
	} {
		v := tri(0, c.v, 1, off(0, 0), c.o, off(1, 1))
		if c.ok {
			star(t, []api.Tri{v, u}, u, v)
		} else {
			noStar(t, []api.Tri{v, u}, 0)
		}
	}
}

// P18.3: none and false, if one has none that follows: the first one, one between, the last one.
func TestStarOpen(t *testing.T) {
	noStar(t, fans(1, 2), 0)
	noStar(t, fans(1, 2, 2, 3), 0)
	noStar(t, fans(1, 2, 3, 1), 0)
	for k := range 4 {
		noStar(t, slices.Delete(fans(1, 5, 5, 3, 3, 9, 9, 1), k, k+1), 0)
	}
	// A face that has the corners, but not the id, follows nothing.
	noStar(t, append(fans(1, 2), tri(7, 2, 1, off(0, 0), off(0, 0), off(0, 0))), 0)
}

// P18.3: none and false, if the way goes round without coming to all.
func TestStarLeftOver(t *testing.T) {
	// Two rings; the shorter one, the longer one first.
	noStar(t, fans(1, 2, 2, 1, 3, 4, 4, 3), 0)
	noStar(t, fans(1, 2, 2, 1, 3, 4, 4, 5, 5, 3), 0)
	noStar(t, fans(1, 2, 2, 5, 5, 1, 3, 3), 0)
	// A ring, and a face that leads into it.
	noStar(t, fans(2, 3, 3, 2, 5, 2), 0)
	// The way leads into a ring that the first one is not on, with nothing left over, or something.
	noStar(t, fans(1, 2, 2, 3, 3, 2), 0)
	noStar(t, fans(1, 2, 2, 3, 3, 2, 6, 6), 0)
	noStar(t, fans(1, 2, 2, 2), 0)
	noStar(t, fans(1, 2, 2, 3, 3, 4, 4, 3, 7, 8, 8, 7), 0)
}

// P18.3: of several that follow the first one of the list is taken, from its first corner on, so that another one is not come to.
func TestStarSeveral(t *testing.T) {
	ring := fans(1, 2, 2, 3, 3, 1)
	for k := range 4 {
		for _, more := range []api.Tri{fan(2, 1), fan(2, 3), fan(3, 2), fan(3, 1), fan(1, 2), fan(1, 3)} {
			noStar(t, slices.Insert(slices.Clone(ring), k, more), 0)
		}
	}
	// The same ring twice.
	noStar(t, append(slices.Clone(ring), ring...), 0)
	noStar(t, fans(4, 4, 4, 4), 0)
	// From one face's corners on: 0 in the midst is the second corner of the third one's, and of another one.
	u := tri(0, 0, 1, off(0, 0), off(1, 0), off(0, 1))
	noStar(t, []api.Tri{u, u}, 0)
}

// P18.3: a face two or all three of whose corners are the id comes as often, each time from another corner on.
func TestStarTwice(t *testing.T) {
	twice := 0
	for _, n := range []int64{2, 10, maxN} {
		// On one line each site has itself, a side off, for a neighbour.
		faces := laid(t, n, []api.Place{place(0, 0, 0), place(1, n/2, 0)})
		met := map[int]int{}
		for _, u := range faces {
			at := map[int]int{}
			for _, v := range u.V {
				met[v]++
				at[v]++
			}
			if len(at) == 2 {
				twice++
			}
		}
		for id := range 2 {
			if got, ok := holdStar(t, faces, id); !ok || len(got) != met[id] {
				t.Fatal(faces, got, ok)
			}
		}
		if met[0]+met[1] != 12 {
			t.Fatal(met)
		}
	}
	if twice != 12 {
		t.Error(twice)
	}
	// A face of three of the id's that is told alone: each of its corners is followed by none.
	noStar(t, []api.Tri{tri(0, 0, 0, off(0, 0), off(1, 0), off(0, 1))}, 0)
	// One that has all three at one place follows itself, from its first corner on.
	noStar(t, []api.Tri{fan(0, 0)}, 0)
	// Two of them: from the one on it follows itself from the other one on, and back.
	u := tri(0, 0, 5, off(0, 0), off(0, 0), off(2, 2))
	star(t, []api.Tri{u}, u, tri(0, 5, 0, off(0, 0), off(2, 2), off(0, 0)))
}

// P18.3: faces of the list may be moved, and begin with any corner.
func TestStarMoved(t *testing.T) {
	r := rand.New(rand.NewSource(2))
	for range 200 {
		n := 2 + r.Int63n(30)
		l := somePlaces(r, n, 1+r.Intn(9))
		faces := laid(t, n, l)
		other := shuffled(r, faces)
		for _, p := range l {
			a, okA := holdStar(t, faces, p.ID)
			b, okB := holdStar(t, other, p.ID)
			if !okA || !okB || !slices.Equal(a, b) {
				t.Fatal(faces, other, p.ID, a, b)
			}
		}
	}
}

// P18.3, against the words: lists of any kind.
func TestStarRandom(t *testing.T) {
	r := rand.New(rand.NewSource(3))
	met := [2]int{}
	for range 100000 {
		ids, offs := 1+r.Intn(4), 1+r.Intn(2)
		o := func() api.Off { return off(r.Intn(offs), r.Intn(offs)) }
		var l []api.Tri
		for range r.Intn(5) {
			l = append(l, tri(r.Intn(ids), r.Intn(ids), r.Intn(ids), o(), o(), o()))
		}
		if _, ok := holdStar(t, l, 0); ok {
			met[1]++
		} else {
			met[0]++
		}
	}
	if min(met[0], met[1]) < 1000 {
		t.Error(met)
	}
}

// No call panics, and offs that are too great come modulo 2^64.
func TestStarGreat(t *testing.T) {
	great := []int{math.MinInt64, math.MinInt64 + 1, -1, 0, 1, math.MaxInt64}
	r := rand.New(rand.NewSource(4))
	for range 20000 {
		one := func() int { return great[r.Intn(len(great))] }
		u := tri(one(), one(), one(), off(one(), one()), off(one(), one()), off(one(), one()))
		v := turned(moved(u, off(one(), one())), 1)
		v.V[r.Intn(3)] = one()
		holdStar(t, []api.Tri{u, v}, u.V[0])
	}
	a := tri(0, 1, 2, off(math.MaxInt64, math.MinInt64), off(math.MinInt64, 0), off(0, math.MaxInt64))
	b := tri(0, 2, 1, off(0, 0), off(-math.MaxInt64, -1), off(1, math.MinInt64))
	star(t, []api.Tri{a, b}, cornerHome(a, 0), b)
}

// P18.6: in a Delaunay mesh there is a Star of each id: as many faces as corners with that id; it goes round.
func TestStarOfAll(t *testing.T) {
	r := rand.New(rand.NewSource(5))
	for _, n := range []int64{1, 2, 3, 5, 17, 400, maxN} {
		for _, many := range []int{1, 2, 3, 4, 9, 30, 200} {
			l := somePlaces(r, n, many)
			faces := laid(t, n, l)
			corners := map[int]int{}
			for _, u := range faces {
				for _, v := range u.V {
					corners[v]++
				}
			}
			if len(corners) != len(l) {
				t.Fatal(l, faces)
			}
			for id, many := range corners {
				got, ok := holdStar(t, faces, id)
				if !ok || len(got) != many {
					t.Fatalf("Star(%v, %d): %v %v", faces, id, got, ok)
				}
				isRing(t, l, n, id, got)
			}
		}
	}
}

// isRing holds that the faces, from the id's site on, go round it once, to the left.
func isRing(t *testing.T, l []api.Place, n int64, id int, ring []api.Tri) {
	t.Helper()
	sites := map[int]api.Point{}
	for _, p := range l {
		sites[p.ID] = p.At
	}
	middle := sites[id]
	rightOf := func(p api.Point) bool { return p.Y < middle.Y || p.Y == middle.Y && p.X < middle.X }
	rounds := 0
	for i, u := range ring {
		if u.V[0] != id || u.Off[0] != off(0, 0) {
			t.Fatal(ring)
		}
		next := ring[(i+1)%len(ring)]
		if u.V[2] != next.V[1] || u.Off[2] != next.Off[1] {
			t.Fatal(ring)
		}
		var c [3]api.Point
		for k := range 3 {
			p := sites[u.V[k]]
			c[k] = at(p.X+int64(u.Off[k].X)*n, p.Y+int64(u.Off[k].Y)*n)
		}
		if !leftOf(c[0], c[1], c[2]) {
			t.Fatal(ring)
		}
		// Once each round one comes from below the middle's line to above it.
		if rightOf(c[1]) && !rightOf(c[2]) {
			rounds++
		}
	}
	if rounds != 1 {
		t.Fatal(rounds, ring)
	}
}

// The answer is new memory, and the same each time.
func TestStarAgain(t *testing.T) {
	l := laid(t, 50, somePlaces(rand.New(rand.NewSource(6)), 50, 30))
	id := l[0].V[0]
	first, _ := unfold.Star(l, id)
	kept := slices.Clone(first)
	for range 20 {
		again, ok := unfold.Star(l, id)
		if !ok || !slices.Equal(again, kept) {
			t.Fatal("another answer")
		}
		clear(again[:cap(again)])
		if !slices.Equal(first, kept) {
			t.Fatal("one list stands in another one's memory")
		}
	}
}
