package poly_test

import (
	"math/big"
	"math/rand"
	"slices"
	"strings"
	"testing"

	"zellige/api"
	"zellige/poly"
	"zellige/rat"
)

const full = 1<<32 - 1

// natBig is a list's number, by another library.
func natBig(a api.Nat) *big.Int {
	n := new(big.Int)
	for _, w := range slices.Backward(a) {
		n.Lsh(n, 32)
		n.Add(n, big.NewInt(int64(w)))
	}
	return n
}

// toBig is a's fraction; one whose Den is nought is nought.
func toBig(a api.Rat) *big.Rat {
	num, den := natBig(a.Num.Mag), natBig(a.Den)
	if den.Sign() == 0 {
		return new(big.Rat)
	}
	if a.Num.Neg {
		num.Neg(num)
	}
	return new(big.Rat).SetFrac(num, den)
}

// words are the words of a number without its sign, no nought at the end.
func words(n *big.Int) api.Nat {
	var list api.Nat
	for rest := new(big.Int).Abs(n); rest.Sign() > 0; rest.Rsh(rest, 32) {
		list = append(list, uint32(rest.Uint64()))
	}
	return list
}

// fromBig is q in the one form in which fractions are told; the other library keeps lowest terms, too.
func fromBig(q *big.Rat) api.Rat {
	return api.Rat{Num: api.Int{Neg: q.Sign() < 0, Mag: words(q.Num())}, Den: words(q.Denom())}
}

// sameRat tells whether two fractions are alike to the word.
func sameRat(a, b api.Rat) bool {
	return a.Num.Neg == b.Num.Neg && slices.Equal(a.Num.Mag, b.Num.Mag) && slices.Equal(a.Den, b.Den)
}

// sameSpot tells whether two spots are alike to the word.
func sameSpot(a, b api.Spot) bool {
	return sameRat(a.X, b.X) && sameRat(a.Y, b.Y)
}

// isNought tells whether a is 0 / 1, to the word.
func isNought(a api.Rat) bool {
	return !a.Num.Neg && len(a.Num.Mag) == 0 && slices.Equal(a.Den, api.Nat{1})
}

// vector is a point of the plane, by another library.
type vector struct{ x, y *big.Rat }

func vec(x, y int64) vector {
	return vector{new(big.Rat).SetInt64(x), new(big.Rat).SetInt64(y)}
}

func vecOf(s api.Spot) vector {
	return vector{toBig(s.X), toBig(s.Y)}
}

func (v vector) spot() api.Spot {
	return api.Spot{X: fromBig(v.x), Y: fromBig(v.y)}
}

func plus(a, b *big.Rat) *big.Rat  { return new(big.Rat).Add(a, b) }
func minus(a, b *big.Rat) *big.Rat { return new(big.Rat).Sub(a, b) }
func times(a, b *big.Rat) *big.Rat { return new(big.Rat).Mul(a, b) }

// plus is v, moved by w.
func (v vector) plus(w vector) vector {
	return vector{plus(v.x, w.x), plus(v.y, w.y)}
}

// from is the way from w to v.
func (v vector) from(w vector) vector {
	return vector{minus(v.x, w.x), minus(v.y, w.y)}
}

// part is so much of v.
func (v vector) part(q *big.Rat) vector {
	return vector{times(v.x, q), times(v.y, q)}
}

// cross is above nought, if w lies to the left of v.
func (v vector) cross(w vector) *big.Rat {
	return minus(times(v.x, w.y), times(v.y, w.x))
}

func (v vector) same(w vector) bool {
	return v.x.Cmp(w.x) == 0 && v.y.Cmp(w.y) == 0
}

// toward is the spot that lies part of the way from v to w, or beyond w, if q is above 1.
func (v vector) toward(w vector, q *big.Rat) vector {
	return v.plus(w.from(v).part(q))
}

// vectors are the spots, by another library.
func vectors(l []api.Spot) []vector {
	var out []vector
	for _, s := range l {
		out = append(out, vecOf(s))
	}
	return out
}

// spots are the vectors as the program's own.
func spots(l []vector) []api.Spot {
	var out []api.Spot
	for _, v := range l {
		out = append(out, v.spot())
	}
	return out
}

// number is the fraction of a text, as it stands: neither in lowest terms, nor need its lower part be above nought; -0 is nought with a sign.
func number(s string) api.Rat {
	num, den, both := strings.Cut(s, "/")
	if !both {
		den = "1"
	}
	digits, neg := strings.CutPrefix(num, "-")
	n, ok := new(big.Int).SetString(digits, 10)
	d, ok2 := new(big.Int).SetString(den, 10)
	if !ok || !ok2 {
		panic("no number: " + s)
	}
	return api.Rat{Num: api.Int{Neg: neg, Mag: words(n)}, Den: words(d)}
}

// spot is the one whose text this is: both numbers, with a blank between.
func spot(s string) api.Spot {
	x, y, _ := strings.Cut(s, " ")
	return api.Spot{X: number(x), Y: number(y)}
}

// path is the spots of a text, with commas between.
func path(s string) []api.Spot {
	var l []api.Spot
	for part := range strings.SplitSeq(s, ", ") {
		if part != "" {
			l = append(l, spot(part))
		}
	}
	return l
}

// show is the spot's text, in lowest terms.
func show(s api.Spot) string {
	return toBig(s.X).RatString() + " " + toBig(s.Y).RatString()
}

// text is the text of spots.
func text(l []api.Spot) string {
	var out []string
	for _, s := range l {
		out = append(out, show(s))
	}
	return strings.Join(out, ", ")
}

// area2 is Area2 by the words.
func area2(l []vector) *big.Rat {
	sum := new(big.Rat)
	for i, a := range l {
		sum.Add(sum, a.cross(l[(i+1)%len(l)]))
	}
	return sum
}

// fan2 is twice the area by other ways: all triangles that have the first corner.
func fan2(l []vector) *big.Rat {
	sum := new(big.Rat)
	for i := 2; i < len(l); i++ {
		sum.Add(sum, l[i-1].from(l[0]).cross(l[i].from(l[0])))
	}
	return sum
}

// centroid is Centroid by the words; none and false, if the area is nought.
func centroid(l []vector) (vector, bool) {
	area := area2(l)
	if area.Sign() == 0 {
		return vec(0, 0), false
	}
	sum := vec(0, 0)
	for i, a := range l {
		b := l[(i+1)%len(l)]
		sum = sum.plus(a.plus(b).part(a.cross(b)))
	}
	return sum.part(new(big.Rat).Inv(times(area, big.NewRat(3, 1)))), true
}

// fanCenter is the center of weight by other ways: the centers of all triangles that have the first corner, each by its area. The area is not nought.
func fanCenter(l []vector) vector {
	sum := vec(0, 0)
	for i := 2; i < len(l); i++ {
		area := l[i-1].from(l[0]).cross(l[i].from(l[0]))
		sum = sum.plus(l[0].plus(l[i-1]).plus(l[i]).part(times(area, big.NewRat(1, 3))))
	}
	return sum.part(new(big.Rat).Inv(fan2(l)))
}

// turns is 1, if c lies to the left of the way from a to b, -1, if to the right, 0, if neither: by the determinant of three by three.
func turns(a, b, c vector) int {
	return plus(plus(a.cross(b), b.cross(c)), c.cross(a)).Sign()
}

// inside is Inside by the words.
func inside(l []vector, s vector) bool {
	right := 0
	for i, a := range l {
		b := l[(i+1)%len(l)]
		if !a.same(b) && turns(a, b, s) < 0 {
			right++
		}
	}
	return len(l) >= 3 && right == 0
}

// copyOf is the spots in memory of their own.
func copyOf(l []api.Spot) []api.Spot {
	l = slices.Clone(l)
	for i := range l {
		for _, a := range []*api.Rat{&l[i].X, &l[i].Y} {
			a.Num.Mag, a.Den = slices.Clone(a.Num.Mag), slices.Clone(a.Den)
		}
	}
	return l
}

// holdArea2 holds Area2 against the words, and answers it.
func holdArea2(t testing.TB, l []api.Spot) api.Rat {
	t.Helper()
	kept, v := copyOf(l), vectors(l)
	want := area2(v)
	if fan := fan2(v); fan.Cmp(want) != 0 {
		t.Fatal("the model is wrong", text(l), fan, want)
	}
	got := poly.Area2(l)
	if !sameRat(got, fromBig(want)) {
		t.Fatalf("Area2(%s): %v, not %s", text(l), got, want.RatString())
	}
	if !slices.EqualFunc(l, kept, sameSpot) {
		t.Fatalf("Area2(%s) left %s", text(kept), text(l))
	}
	return got
}

// holdCentroid holds Centroid against the words, and answers it.
func holdCentroid(t testing.TB, l []api.Spot) (api.Spot, bool) {
	t.Helper()
	kept, v := copyOf(l), vectors(l)
	want, ok := centroid(v)
	if ok && !want.same(fanCenter(v)) {
		t.Fatal("the model is wrong", text(l), fanCenter(v), want)
	}
	got, ok2 := poly.Centroid(l)
	if ok2 != ok || !sameSpot(got, want.spot()) {
		t.Fatalf("Centroid(%s): %v %v, not %s %v", text(l), got, ok2, show(want.spot()), ok)
	}
	if !slices.EqualFunc(l, kept, sameSpot) {
		t.Fatalf("Centroid(%s) left %s", text(kept), text(l))
	}
	return got, ok
}

// holdInside holds Inside against the words, and answers it.
func holdInside(t testing.TB, l []api.Spot, s api.Spot) bool {
	t.Helper()
	kept, keptS := copyOf(l), copyOf([]api.Spot{s})[0]
	want := inside(vectors(l), vecOf(s))
	if got := poly.Inside(l, s); got != want {
		t.Fatalf("Inside(%s; %s): %v", text(l), show(s), got)
	}
	if !slices.EqualFunc(l, kept, sameSpot) || !sameSpot(s, keptS) {
		t.Fatalf("Inside(%s; %s) left %s; %s", text(kept), show(keptS), text(l), show(s))
	}
	return want
}

// hold holds all calls against the words, of the polygon and of some spots.
func hold(t testing.TB, l []api.Spot, some ...api.Spot) {
	t.Helper()
	holdArea2(t, l)
	holdCentroid(t, l)
	for _, s := range some {
		holdInside(t, l, s)
	}
}

// ratOf is q, at random in lowest terms or in another form.
func ratOf(r *rand.Rand, q *big.Rat) api.Rat {
	a := fromBig(q)
	common := big.NewInt(1 + r.Int63n(1<<40))
	switch r.Intn(4) {
	case 0:
		a.Num.Mag, a.Den = words(new(big.Int).Mul(q.Num(), common)), words(new(big.Int).Mul(q.Denom(), common))
	case 1:
		a.Num.Mag, a.Den = append(a.Num.Mag, 0, 0), append(a.Den, 0)
	}
	if q.Sign() == 0 && r.Intn(2) == 0 {
		return noughts()[r.Intn(len(noughts()))]
	}
	return a
}

// otherForms is the same spots, their numbers in other forms.
func otherForms(r *rand.Rand, l []api.Spot) []api.Spot {
	var out []api.Spot
	for _, v := range vectors(l) {
		out = append(out, api.Spot{X: ratOf(r, v.x), Y: ratOf(r, v.y)})
	}
	return out
}

// noughts are nought in all its forms: by Num, by Den, by both, with and without a sign.
func noughts() []api.Rat {
	neg := api.Int{Neg: true, Mag: api.Nat{0, 0}}
	five, minusFive := api.Int{Mag: api.Nat{5}}, api.Int{Neg: true, Mag: api.Nat{5}}
	return []api.Rat{
		{}, {Den: api.Nat{1}}, {Den: api.Nat{7}}, {Den: api.Nat{0, 5, 0}}, {Den: api.Nat{0}}, {Den: api.Nat{0, 0, 0}},
		{Num: neg}, {Num: neg, Den: api.Nat{0}}, {Num: neg, Den: api.Nat{1}}, {Num: neg, Den: api.Nat{6, 0}}, {Num: api.Int{Neg: true}, Den: api.Nat{2}},
		{Num: five}, {Num: minusFive}, {Num: five, Den: api.Nat{0}}, {Num: minusFive, Den: api.Nat{0, 0}}, {Num: api.Int{Neg: true, Mag: api.Nat{full, full, 0}}, Den: api.Nat{0}},
	}
}

// someNumber is a fraction, at times small, at times great, at times whole.
func someNumber(r *rand.Rand) *big.Rat {
	switch r.Intn(4) {
	case 0:
		return big.NewRat(r.Int63n(7)-3, 1)
	case 1:
		return big.NewRat(r.Int63n(41)-20, 1+r.Int63n(12))
	case 2:
		return big.NewRat(r.Int63()-r.Int63(), 1+r.Int63n(1<<40))
	}
	far := new(big.Rat).SetInt(new(big.Int).Exp(big.NewInt(10), big.NewInt(r.Int63n(40)), nil))
	return times(far, big.NewRat(r.Int63n(19)-9, 1+r.Int63n(9)))
}

func someSpot(r *rand.Rand) vector {
	return vector{someNumber(r), someNumber(r)}
}

// somePath is so many spots, at times one of them told again.
func somePath(r *rand.Rand, many int) []vector {
	var l []vector
	for len(l) < many {
		if len(l) > 0 && r.Intn(6) == 0 {
			l = append(l, l[r.Intn(len(l))])
			continue
		}
		l = append(l, someSpot(r))
	}
	return l
}

// hull is the corners of all that lies between the spots, turning left; none of them on a line with the two beside it.
func hull(l []vector) []vector {
	l = slices.SortedFunc(slices.Values(l), func(a, b vector) int {
		if order := a.x.Cmp(b.x); order != 0 {
			return order
		}
		return a.y.Cmp(b.y)
	})
	half := func(l []vector) []vector {
		var out []vector
		for _, v := range l {
			for len(out) > 1 && turns(out[len(out)-2], out[len(out)-1], v) <= 0 {
				out = out[:len(out)-1]
			}
			out = append(out, v)
		}
		return out[:len(out)-1]
	}
	below := half(l)
	slices.Reverse(l)
	return append(below, half(l)...)
}

// turned is the spots from the one with this number on.
func turned[T any](l []T, from int) []T {
	return append(slices.Clone(l[from:]), l[:from]...)
}

// back is the spots the other way round.
func back[T any](l []T) []T {
	l = slices.Clone(l)
	slices.Reverse(l)
	return l
}

// lowest tells whether the fraction is told in lowest terms.
func lowest(a api.Rat) bool {
	return sameRat(a, rat.Norm(a))
}
