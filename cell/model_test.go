package cell_test

import (
	"math/big"
	"math/rand"
	"slices"
	"strings"
	"testing"

	"zellige/api"
	"zellige/cell"
	"zellige/pdt"
	"zellige/rat"
	"zellige/unfold"
)

// end is the greatest number that a point may have, and maxN the greatest side, written out apart from api.
const (
	end  = 1099511627776
	maxN = 1073741824
)

func at(x, y int64) api.Point {
	return api.Point{X: x, Y: y}
}

func off(x, y int) api.Off {
	return api.Off{X: x, Y: y}
}

func place(id int, x, y int64) api.Place {
	return api.Place{ID: id, At: at(x, y)}
}

func knot(id, x, y int) api.Knot {
	return api.Knot{V: id, Off: off(x, y)}
}

// tri is the face of three knots.
func tri(a, b, c api.Knot) api.Tri {
	return api.Tri{V: [3]int{a.V, b.V, c.V}, Off: [3]api.Off{a.Off, b.Off, c.Off}}
}

// ring is faces about the id, not off, to whose left the knots lie one behind the other.
func ring(id int, knots ...api.Knot) []api.Tri {
	var l []api.Tri
	for i, k := range knots {
		l = append(l, tri(knot(id, 0, 0), k, knots[(i+1)%len(knots)]))
	}
	return l
}

// lone is the mesh of one site, laid out: each face comes thrice to its star.
func lone(id int) []api.Tri {
	return []api.Tri{
		tri(knot(id, 0, 0), knot(id, -1, 0), knot(id, 0, -1)),
		tri(knot(id, 0, 0), knot(id, -1, 1), knot(id, -1, 0)),
	}
}

// shuffled is the faces in any order, from any corner on, moved anyhow.
func shuffled(r *rand.Rand, l []api.Tri) []api.Tri {
	var out []api.Tri
	for _, k := range r.Perm(len(l)) {
		var u api.Tri
		from, by := r.Intn(3), off(r.Intn(7)-3, r.Intn(7)-3)
		for i := range 3 {
			c := (from + i) % 3
			u.V[i], u.Off[i] = l[k].V[c], off(l[k].Off[c].X+by.X, l[k].Off[c].Y+by.Y)
		}
		out = append(out, u)
	}
	return out
}

// number is the fraction whose text this is.
func number(t testing.TB, s string) api.Rat {
	t.Helper()
	a, err := rat.Parse(s)
	if err != api.OK {
		t.Fatal(s, err)
	}
	return a
}

// spot is the one whose text this is: both numbers, with a blank between.
func spot(t testing.TB, s string) api.Spot {
	t.Helper()
	x, y, _ := strings.Cut(s, " ")
	return api.Spot{X: number(t, x), Y: number(t, y)}
}

// show is the spot's text.
func show(s api.Spot) string {
	return rat.Show(s.X) + " " + rat.Show(s.Y)
}

// texts are the spots' texts.
func texts(l []api.Spot) []string {
	var out []string
	for _, s := range l {
		out = append(out, show(s))
	}
	return out
}

// vector is a point of the plane, by another library.
type vector struct{ x, y *big.Rat }

func vec(x, y int64) vector {
	return vector{new(big.Rat).SetInt64(x), new(big.Rat).SetInt64(y)}
}

// toBig is a's fraction, by another library.
func toBig(a api.Rat) *big.Rat {
	q, _ := new(big.Rat).SetString(rat.Show(a))
	return q
}

func vecOf(s api.Spot) vector {
	return vector{toBig(s.X), toBig(s.Y)}
}

// spotOf is the spot of a vector.
func spotOf(t testing.TB, v vector) api.Spot {
	return api.Spot{X: number(t, v.x.RatString()), Y: number(t, v.y.RatString())}
}

func plus(a, b *big.Rat) *big.Rat  { return new(big.Rat).Add(a, b) }
func minus(a, b *big.Rat) *big.Rat { return new(big.Rat).Sub(a, b) }
func times(a, b *big.Rat) *big.Rat { return new(big.Rat).Mul(a, b) }

// from is the way from b to a.
func (a vector) from(b vector) vector {
	return vector{minus(a.x, b.x), minus(a.y, b.y)}
}

// cross is above nought, if b lies to the left of a.
func (a vector) cross(b vector) *big.Rat {
	return minus(times(a.x, b.y), times(a.y, b.x))
}

// square is how long a is, squared.
func (a vector) square() *big.Rat {
	return plus(times(a.x, a.x), times(a.y, a.y))
}

func (a vector) same(b vector) bool {
	return a.x.Cmp(b.x) == 0 && a.y.Cmp(b.y) == 0
}

// toward is the spot that lies part of the way from a to b, or beyond b, if part is above 1.
func (a vector) toward(b vector, part *big.Rat) vector {
	way := b.from(a)
	return vector{plus(a.x, times(way.x, part)), plus(a.y, times(way.y, part))}
}

// apart is how far s is from p, by so many sides n off, squared.
func apart(s vector, p api.Point, o api.Off, n int64) *big.Rat {
	return s.from(vec(p.X+int64(o.X)*n, p.Y+int64(o.Y)*n)).square()
}

// canBe tells whether the number, so many sides n off, can be a point's.
func canBe(c int64, off int, n int64) bool {
	sum := new(big.Int).Mul(big.NewInt(int64(off)), big.NewInt(n))
	sum.Add(sum, big.NewInt(c))
	return sum.CmpAbs(big.NewInt(end)) <= 0
}

// canPoint tells whether the point, and it so many sides n off, can be.
func canPoint(p api.Point, o api.Off, n int64) bool {
	return canBe(p.X, 0, 1) && canBe(p.Y, 0, 1) && canBe(p.X, o.X, n) && canBe(p.Y, o.Y, n)
}

// firstOf is the site of the id's first place.
func firstOf(l []api.Place, id int) (api.Point, bool) {
	for _, p := range l {
		if p.ID == id {
			return p.At, true
		}
	}
	return api.Point{}, false
}

// sidesOff is by how many sides n the number lies off the first square; n is above nought.
func sidesOff(c, n int64) int64 {
	// Div goes down, as what it divides by is above nought.
	return new(big.Int).Div(big.NewInt(c), big.NewInt(n)).Int64()
}

// cornersOf is, by the words, the corners of the star's faces whose centers are to be told, or that none are.
func cornersOf(l []api.Place, f []api.Tri, n int64, id int) ([][3]vector, bool) {
	site, known := firstOf(l, id)
	star, ok := unfold.Star(f, id)
	if !known || !ok || n < 1 || n > end {
		return nil, false
	}
	// So far the star is to be moved that the id's site lies in the first square.
	by := vec(-sidesOff(site.X, n)*n, -sidesOff(site.Y, n)*n)
	var all [][3]vector
	for _, u := range star {
		var c [3]vector
		for i, v := range u.V {
			p, known := firstOf(l, v)
			if !known || !canPoint(p, u.Off[i], n) {
				return nil, false
			}
			c[i] = vec(p.X+int64(u.Off[i].X)*n, p.Y+int64(u.Off[i].Y)*n)
			c[i] = vector{plus(c[i].x, by.x), plus(c[i].y, by.y)}
		}
		if c[1].from(c[0]).cross(c[2].from(c[0])).Sign() == 0 {
			return nil, false
		}
		all = append(all, c)
	}
	return all, true
}

// isLowest tells whether the fraction is told in lowest terms.
func isLowest(a api.Rat) bool {
	return sameRat(a, rat.Norm(a))
}

// holdCell holds Cell against the words, and answers it. There is but one spot as far from three corners that are not on a line.
func holdCell(t testing.TB, l []api.Place, f []api.Tri, n int64, id int) ([]api.Spot, bool) {
	t.Helper()
	keptL, keptF := slices.Clone(l), slices.Clone(f)
	want, ok := cornersOf(l, f, n, id)
	got, ok2 := cell.Cell(l, f, n, id)
	if ok2 != ok || len(got) != len(want) {
		t.Fatalf("Cell(%v, %v, %d, %d): %v %v, not %v", l, f, n, id, texts(got), ok2, ok)
	}
	for i, s := range got {
		if !isLowest(s.X) || !isLowest(s.Y) {
			t.Fatalf("not in lowest terms: %v", s)
		}
		v := vecOf(s)
		r := v.from(want[i][0]).square()
		if r.Cmp(v.from(want[i][1]).square()) != 0 || r.Cmp(v.from(want[i][2]).square()) != 0 {
			t.Fatalf("Cell(%v, %v, %d, %d): %v is not the center of %v", l, f, n, id, show(s), want[i])
		}
	}
	if !slices.Equal(l, keptL) || !slices.Equal(f, keptF) {
		t.Fatalf("Cell(%v, %v, %d, %d) left %v %v", keptL, keptF, n, id, l, f)
	}
	return got, ok
}

// slowHolds is Holds by the words: each site, by each number of sides off.
func slowHolds(l []api.Place, n int64, id int, s api.Spot) bool {
	site, known := firstOf(l, id)
	if !known || n < 1 || n > maxN {
		return false
	}
	for _, p := range l {
		for x := -2; x <= 2; x++ {
			for y := -2; y <= 2; y++ {
				if !canPoint(p.At, off(x, y), n) {
					return false
				}
			}
		}
	}
	v := vecOf(s)
	own := apart(v, site, off(0, 0), n)
	for _, p := range l {
		for x := -2; x <= 2; x++ {
			for y := -2; y <= 2; y++ {
				if apart(v, p.At, off(x, y), n).Cmp(own) < 0 {
					return false
				}
			}
		}
	}
	return true
}

// holds holds Holds against the words, and answers it.
func holds(t testing.TB, l []api.Place, n int64, id int, s api.Spot) bool {
	t.Helper()
	keptL, keptS := slices.Clone(l), copyOf(s)
	want := slowHolds(l, n, id, s)
	if got := cell.Holds(l, n, id, s); got != want {
		t.Fatalf("Holds(%v, %d, %d, %s): %v", l, n, id, show(s), got)
	}
	if !slices.Equal(l, keptL) || !sameSpot(s, keptS) {
		t.Fatalf("Holds(%v, %d, %d, %v) left %v %v", keptL, n, id, keptS, l, s)
	}
	return want
}

// copyOf is the spot in memory of its own.
func copyOf(s api.Spot) api.Spot {
	for _, a := range []*api.Rat{&s.X, &s.Y} {
		a.Num.Mag, a.Den = slices.Clone(a.Num.Mag), slices.Clone(a.Den)
	}
	return s
}

// sameSpot tells whether two spots are alike to the word.
func sameSpot(a, b api.Spot) bool {
	return sameRat(a.X, b.X) && sameRat(a.Y, b.Y)
}

func sameRat(a, b api.Rat) bool {
	return a.Num.Neg == b.Num.Neg && slices.Equal(a.Num.Mag, b.Num.Mag) && slices.Equal(a.Den, b.Den)
}

// clipped is the part of the polygon, whose corners turn left, that is no farther from a than from b.
func clipped(l []vector, a, b vector) []vector {
	// How much nearer a spot is to a: nought on the line between, and in proportion on both sides.
	gain := func(s vector) *big.Rat { return minus(s.from(b).square(), s.from(a).square()) }
	var out []vector
	for i, s := range l {
		next := l[(i+1)%len(l)]
		g, h := gain(s), gain(next)
		if g.Sign() >= 0 {
			out = append(out, s)
		}
		if g.Sign()*h.Sign() < 0 {
			out = append(out, s.toward(next, new(big.Rat).Quo(g, minus(g, h))))
		}
	}
	return out
}

// trueCell is the corners of the id's cell, turning left, by cutting off what is nearer to another one of the places' sites, by whole sides off. By its own places one side off a cell reaches but half a side, and all that might be nearer to a spot there is by no more than one side off, too.
func trueCell(l []api.Place, n int64, id int) []vector {
	site, _ := firstOf(l, id)
	a := vec(site.X, site.Y)
	poly := []vector{
		vec(site.X-2*n, site.Y-2*n), vec(site.X+2*n, site.Y-2*n), vec(site.X+2*n, site.Y+2*n), vec(site.X-2*n, site.Y+2*n),
	}
	for _, p := range l {
		for x := int64(-1); x <= 1; x++ {
			for y := int64(-1); y <= 1; y++ {
				if b := vec(p.At.X+x*n, p.At.Y+y*n); !a.same(b) {
					poly = clipped(poly, a, b)
				}
			}
		}
	}
	return once(poly)
}

// once is the corners, but none that is the one ahead of it, and none that lies on a line with the two beside it.
func once(l []vector) []vector {
	l = slices.CompactFunc(slices.Clone(l), vector.same)
	for len(l) > 1 && l[0].same(l[len(l)-1]) {
		l = l[:len(l)-1]
	}
	var out []vector
	for i, s := range l {
		last, next := l[(i+len(l)-1)%len(l)], l[(i+1)%len(l)]
		if s.from(last).cross(next.from(s)).Sign() != 0 {
			out = append(out, s)
		}
	}
	return out
}

// sameRound tells whether both are the same corners, one behind the other, wherever they begin.
func sameRound(a, b []vector) bool {
	for k := range a {
		if slices.EqualFunc(append(slices.Clone(a[k:]), a[:k]...), b, vector.same) {
			return true
		}
	}
	return len(a)+len(b) == 0
}

// area2 is twice the polygon's area.
func area2(l []vector) *big.Rat {
	sum := new(big.Rat)
	for i, s := range l {
		sum.Add(sum, s.cross(l[(i+1)%len(l)]))
	}
	return sum
}

// vectors are the spots, by another library.
func vectors(l []api.Spot) []vector {
	var out []vector
	for _, s := range l {
		out = append(out, vecOf(s))
	}
	return out
}

// laid is an engine's faces of these sites, and how many sheets it has to a side.
func laid(t testing.TB, n int64, l []api.Place) ([]api.Tri, int) {
	t.Helper()
	e, err := pdt.Open(n, 1000000)
	if err != api.OK {
		t.Fatal(n, err)
	}
	if err := e.Set(l); err != api.OK {
		t.Fatalf("Set(%v): %d", l, err)
	}
	faces, ok := unfold.Faces(e.Dump(), n)
	if !ok || len(faces) != 2*len(l) {
		t.Fatalf("of %v, n %d: %v %v", l, n, faces, ok)
	}
	return faces, e.Sheets()
}

// somePlaces are so many places of different sites, at most as many as there are, with different ids.
func somePlaces(r *rand.Rand, n int64, many int) []api.Place {
	var l []api.Place
	taken := map[api.Point]bool{}
	ids := r.Perm(2 * many)
	for len(l) < many && int64(len(l)) < n*min(n, 1<<20) {
		p := at(r.Int63n(n), r.Int63n(n))
		if !taken[p] {
			taken[p] = true
			l = append(l, api.Place{ID: ids[len(l)], At: p})
		}
	}
	return l
}

// gridPlaces is k by k sites, so far from one another, from left to right and in it upwards.
func gridPlaces(k int, gap int64) []api.Place {
	var l []api.Place
	for i := range k {
		for j := range k {
			l = append(l, place(len(l), int64(i)*gap, int64(j)*gap))
		}
	}
	return l
}
