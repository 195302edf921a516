package poly_test

import (
	"math/big"
	"math/rand"
	"slices"
	"testing"

	"zellige/api"
	"zellige/poly"
	"zellige/rat"
)

// somePaths are spots of many kinds: by hand and at random, few and many, turning either way.
func somePaths(seed int64) [][]vector {
	var all [][]vector
	for _, s := range []string{
		"", "0 0", "0 0, 1 1", "0 0, 1 0, 0 1", "0 0, 0 1, 1 0", "0 0, 2 0, 2 2, 0 2", "0 0, 4 0, 4 1, 1 1, 1 4, 0 4", "0 0, 1 1, 2 2", "5 5, 5 5, 5 5",
		"0 0, 2 2, 2 0, 0 2", "0 0, 3 3, 3 -3, 0 0, -1 1, -1 -1", "0 3, -2 -3, 3 1, -3 1, 2 -3", "1/2 1/3, 3/4 2/5, 1/6 7/8",
	} {
		all = append(all, vectors(path(s)))
	}
	r := rand.New(rand.NewSource(seed))
	for range 150 {
		all = append(all, somePath(r, r.Intn(9)))
	}
	return all
}

// someMoves are by whole numbers and by fractions, above nought and below, near and far out.
func someMoves() []vector {
	far := new(big.Rat).SetInt(new(big.Int).Exp(big.NewInt(10), big.NewInt(60), nil))
	return []vector{
		vec(0, 0), vec(1, 0), vec(0, 1), vec(-3, 7), vec(-5, -5), vec(1<<40, -1<<40),
		{big.NewRat(1, 2), big.NewRat(1, 3)}, {big.NewRat(-7, 5), big.NewRat(-2, 9)}, {big.NewRat(-1, 1000000007), big.NewRat(998244353, 2)},
		{far, new(big.Rat).Neg(far)}, {new(big.Rat).Neg(far), times(far, big.NewRat(1, 7))}, {new(big.Rat).Inv(far), big.NewRat(0, 1)},
	}
}

// P20.4: moved alike, the area stays, and the centroid goes along; and what is inside goes along, too.
func TestMoved(t *testing.T) {
	r := rand.New(rand.NewSource(21))
	met := [2]int{}
	for _, l := range somePaths(22) {
		area := poly.Area2(spots(l))
		center, ok := poly.Centroid(spots(l))
		s := someSpot(r)
		within := poly.Inside(spots(l), s.spot())
		for _, by := range someMoves() {
			var moved []api.Spot
			for _, v := range l {
				moved = append(moved, v.plus(by).spot())
			}
			if got := poly.Area2(moved); !sameRat(got, area) {
				t.Fatalf("Area2(%s): %v, not %v", text(moved), got, area)
			}
			want := vec(0, 0).spot()
			if ok {
				want = vecOf(center).plus(by).spot()
			}
			if got, ok2 := poly.Centroid(moved); ok2 != ok || !sameSpot(got, want) {
				t.Fatalf("Centroid(%s): %s %v, not %s", text(moved), show(got), ok2, show(want))
			}
			if poly.Inside(moved, s.plus(by).spot()) != within {
				t.Fatalf("Inside(%s; %s): %v", text(moved), show(s.plus(by).spot()), !within)
			}
		}
		if ok {
			met[1]++
		} else {
			met[0]++
		}
	}
	if min(met[0], met[1]) < 20 {
		t.Error(met)
	}
}

// keeps holds that the spots have this area and this centroid.
func keeps(t *testing.T, l []api.Spot, area api.Rat, center api.Spot, ok bool) {
	t.Helper()
	if got := poly.Area2(l); !sameRat(got, area) {
		t.Fatalf("Area2(%s): %v, not %v", text(l), got, area)
	}
	if got, ok2 := poly.Centroid(l); ok2 != ok || !sameSpot(got, center) {
		t.Fatalf("Centroid(%s): %s %v, not %s", text(l), show(got), ok2, show(center))
	}
}

// P20.5: from each spot on, and with each one told twice, or thrice, it is the same; the other way round the area has the other sign. What is inside stays so from each spot on, and with one told twice.
func TestTurned(t *testing.T) {
	r := rand.New(rand.NewSource(23))
	for _, v := range somePaths(24) {
		l := spots(v)
		area := poly.Area2(l)
		center, ok := poly.Centroid(l)
		s := someSpot(r).spot()
		keeps(t, back(l), rat.Neg(area), center, ok)
		for i := range l {
			keeps(t, turned(l, i), area, center, ok)
			keeps(t, slices.Insert(slices.Clone(l), i, l[i]), area, center, ok)
			keeps(t, slices.Insert(slices.Clone(l), i, l[i], l[i]), area, center, ok)
			keeps(t, turned(back(l), i), rat.Neg(area), center, ok)
			if within := poly.Inside(l, s); within != poly.Inside(turned(l, i), s) || len(l) > 2 && within != poly.Inside(slices.Insert(slices.Clone(l), i, l[i]), s) {
				t.Fatalf("Inside(%s; %s): %v", text(l), show(s), within)
			}
		}
		var twice []api.Spot
		for _, s := range l {
			twice = append(twice, s, s)
		}
		keeps(t, twice, area, center, ok)
		// The first one told again at the end is told twice, too.
		if len(l) > 0 {
			keeps(t, append(slices.Clone(l), l[0]), area, center, ok)
		}
	}
}

// turnsLeft tells whether the corners turn left all the way round: each lies to the right of none of the ways.
func turnsLeft(l []vector) bool {
	for _, s := range l {
		if !inside(l, s) {
			return false
		}
	}
	return true
}

// isWithin holds that the centroid of corners that turn left all the way round is inside, if they have an area.
func isWithin(t *testing.T, v []vector) bool {
	t.Helper()
	l := spots(v)
	if !turnsLeft(v) {
		t.Fatalf("%s: not turning left", text(l))
	}
	center, ok := holdCentroid(t, l)
	if ok && (!holdInside(t, l, center) || rat.Sign(poly.Area2(l)) <= 0) {
		t.Fatalf("Inside(%s; %s)", text(l), show(center))
	}
	return ok
}

// withMore is corners and spots on the ways between them, some lacking and some told twice: maybe so few that they have no area.
func withMore(r *rand.Rand, l []vector) []vector {
	var out []vector
	for i, a := range l {
		b := l[(i+1)%len(l)]
		for k := range 3 {
			for range r.Intn(3) {
				out = append(out, a.toward(b, big.NewRat(int64(k), 3)))
			}
		}
		if len(out) == 0 || r.Intn(2) == 0 {
			out = append(out, b)
		}
	}
	return out
}

// P20.6: of corners that turn left all the way round the centroid is inside, also with spots on the ways and spots told twice, and of those that go about twice.
func TestWithin(t *testing.T) {
	r := rand.New(rand.NewSource(25))
	met := map[int]int{}
	for range 300 {
		l := hull(somePath(r, 3+r.Intn(12)))
		if len(l) < 3 {
			continue
		}
		met[len(l)]++
		if !isWithin(t, l) || !isWithin(t, turned(l, r.Intn(len(l)))) || !isWithin(t, append(slices.Clone(l), l...)) {
			t.Fatal("no area", text(spots(l)))
		}
		all := slices.Clone(l)
		for i, a := range l {
			b := l[(i+1)%len(l)]
			all = append(all, a, a.toward(b, big.NewRat(1, 3)), a.toward(b, big.NewRat(2, 3)), b)
		}
		if !isWithin(t, all) {
			t.Fatal("no area", text(spots(all)))
		}
		isWithin(t, withMore(r, l))
	}
	if len(met) < 5 || met[3] < 20 {
		t.Error(met)
	}
}

// P20.6: and so of each polygon of few corners on a small grid that turns left all the way round; of all of these each call is what the words say.
func TestGrid(t *testing.T) {
	for _, c := range []struct {
		right, up int64
		many      int
	}{{3, 3, 3}, {3, 3, 4}, {2, 2, 5}, {3, 2, 5}, {2, 2, 6}} {
		var grid []vector
		for x := range c.right {
			for y := range c.up {
				grid = append(grid, vec(x, y))
			}
		}
		left, area := 0, 0
		each(grid, c.many, nil, func(l []vector) {
			hold(t, spots(l), l[0].spot(), api.Spot{X: number("1/2"), Y: number("1/2")}, spot("3/2 1"))
			if turnsLeft(l) {
				left++
				if isWithin(t, l) {
					area++
				}
			}
		})
		if left == area || area == 0 {
			t.Error(c, left, area)
		}
	}
}

// each hands over each list of so many more of the spots, behind those ahead.
func each(all []vector, many int, ahead []vector, do func([]vector)) {
	if many == 0 {
		do(ahead)
		return
	}
	for _, v := range all {
		each(all, many-1, append(slices.Clone(ahead), v), do)
	}
}

// P20.6 says it of such corners alone: of others the centroid may lie outside.
func TestWithout(t *testing.T) {
	for _, s := range []string{"0 0, 6 0, 6 6, 5 6, 5 1, 1 1, 1 6, 0 6", "0 2, 2 2, 2 0, 0 0"} {
		center, ok := holdCentroid(t, path(s))
		if !ok || holdInside(t, path(s), center) {
			t.Error(s, show(center))
		}
	}
}

// numbersOf are fractions of any form, made of the bytes.
func numbersOf(data []byte) []api.Rat {
	take := func() byte {
		if len(data) == 0 {
			return 0
		}
		b := data[0]
		data = data[1:]
		return b
	}
	list := func(many byte) api.Nat {
		var l api.Nat
		for range many {
			l = append(l, uint32(take())<<(take()%32))
		}
		return l
	}
	var all []api.Rat
	for len(data) > 0 && len(all) < 24 {
		kind := take()
		all = append(all, api.Rat{Num: api.Int{Neg: kind&1 != 0, Mag: list(kind >> 1 & 3)}, Den: list(kind >> 3 & 3)})
	}
	return all
}

// FuzzAll makes spots of any numbers, and holds all that is told of them against the words.
func FuzzAll(f *testing.F) {
	f.Add([]byte{10, 0, 0, 0, 0, 10, 2, 0, 1, 0, 10, 0, 0, 1, 0, 10, 2, 0, 1, 0, 10, 1, 0, 1, 0, 10, 2, 0, 1, 0, 10, 1, 1, 1, 0, 10, 1, 0, 2, 0})
	f.Add([]byte{11, 1, 2, 3, 4, 29, 5, 6, 7, 8, 9, 10, 11, 12, 255, 254, 253, 1, 0, 3, 8, 200, 100, 50, 25, 12})
	f.Add([]byte{0, 1, 2, 9, 7, 7, 0})
	f.Fuzz(func(t *testing.T, data []byte) {
		numbers := numbersOf(data)
		var l []api.Spot
		for i := 0; i+1 < len(numbers); i += 2 {
			l = append(l, api.Spot{X: numbers[i], Y: numbers[i+1]})
		}
		if len(l) == 0 {
			l = append(l, api.Spot{})
		}
		hold(t, l, l...)
		hold(t, l[1:], l[0])
		v := vectors(l)
		round := spots(append(hull(v), v[0]))
		hold(t, round, l...)
		if center, ok := poly.Centroid(round[:len(round)-1]); ok && !poly.Inside(round[:len(round)-1], center) {
			t.Fatalf("Inside(%s; %s)", text(round), show(center))
		}
	})
}
