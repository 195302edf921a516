package poly_test

import (
	"math/big"
	"math/rand"
	"testing"

	"zellige/api"
	"zellige/poly"
)

// told asks Inside of each of the spots, which is to tell so.
func told(t *testing.T, l []api.Spot, want bool, some string) {
	t.Helper()
	for _, s := range path(some) {
		if holdInside(t, l, s) != want {
			t.Errorf("Inside(%s; %s): %v", text(l), show(s), !want)
		}
	}
}

// P20.3: nothing is inside of fewer than three spots.
func TestInsideFew(t *testing.T) {
	for _, l := range []string{"", "0 0", "3 4", "0 0, 1 1", "1 1, 0 0", "3 4, 3 4", "1/2 1/3, -7 1/9"} {
		told(t, path(l), false, "0 0, 3 4, 1 1, 1/2 1/2, 1/2 1/3, -5 7")
	}
	if poly.Inside(nil, api.Spot{}) || poly.Inside([]api.Spot{}, api.Spot{}) || poly.Inside(make([]api.Spot, 2, 9), api.Spot{}) {
		t.Error("of few")
	}
}

// P20.3: of a square and of a triangle: within, on a way, on a corner; beyond a way, also where it only would go on.
func TestInside(t *testing.T) {
	square := path("0 0, 2 0, 2 2, 0 2")
	told(t, square, true, "1 1, 1/2 3/2, 1/1000000000000 1, 2 1, 0 1, 1 0, 1 2, 0 0, 2 0, 2 2, 0 2, 0 1/3, 7/0 1, -0 -0")
	told(t, square, false, "201/100 1, -1 1, 1 -1/1000000000000, 3 0, -1 0, 0 3, 0 -1, 2 3, 2 -1, 3 2, -1 2, 3 3, 1000000000000000000000000 1")
	triangle := path("1/2 1/3, 9/2 1/3, 1/2 10/3")
	told(t, triangle, true, "1 1, 5/2 11/6, 1/2 1/3, 9/2 1/3, 1/2 10/3, 1/2 1, 2 1/3")
	told(t, triangle, false, "0 0, 5/2 2, 1/3 1, 2 1/4, 5 1/3, 1/2 4, 9/2 10/3")
}

// P20.3: a trifle to the left of each way, on it, and a trifle to the right.
func TestInsideTrifle(t *testing.T) {
	trifle := big.NewRat(1, 1000000000000)
	for _, s := range []string{"0 0, 2 0, 2 2, 0 2", "0 0, 1 0, 0 1", "1/2 1/3, 7/5 -1/9, 3 3, -2/7 9/8", "3000000000000 1, 3000000000001 1, 3000000000001 2", "2 0, 1 2, -1 2, -2 0, -1 -2, 1 -2"} {
		l := vectors(path(s))
		for i, a := range l {
			b := l[(i+1)%len(l)]
			for _, q := range []*big.Rat{big.NewRat(1, 7), big.NewRat(1, 2), big.NewRat(8, 9)} {
				on := a.toward(b, q)
				way := b.from(a)
				left := vector{times(way.y, big.NewRat(-1, 1)), way.x}.part(trifle)
				right := left.part(big.NewRat(-1, 1))
				if !holdInside(t, path(s), on.plus(left).spot()) || !holdInside(t, path(s), on.spot()) || holdInside(t, path(s), on.plus(right).spot()) {
					t.Error(s, show(on.spot()))
				}
			}
		}
		for _, a := range l {
			if !holdInside(t, path(s), a.spot()) {
				t.Error(s, show(a.spot()))
			}
		}
	}
}

// P20.3: it hangs on each way, from the first to the one that goes back to the first spot.
func TestInsideEachWay(t *testing.T) {
	square := path("0 0, 2 0, 2 2, 0 2")
	for i, s := range path("1 -1, 3 1, 1 3, -1 1") {
		for from := range square {
			if holdInside(t, turned(square, from), s) {
				t.Error(i, from)
			}
		}
	}
}

// P20.3: ways that go nowhere don't count, wherever they are; where there is none that goes anywhere, all is inside.
func TestInsideNowhere(t *testing.T) {
	for _, l := range []string{"0 0, 0 0, 2 0, 2 2, 0 2", "0 0, 2 0, 2 0, 2 0, 2 2, 0 2", "0 0, 2 0, 2 2, 2 2, 0 2", "0 0, 2 0, 2 2, 0 2, 0 2", "0 0, 2 0, 2 2, 0 2, 0 0", "0 0, 0 0, 2 0, 4/2 0, 2 2, 2 2, 0 2, 0 6/3"} {
		told(t, path(l), true, "1 1, 0 0, 2 2, 1 0, 2 1")
		told(t, path(l), false, "-1 1, 3 1, 1 -1, 1 3")
	}
	for _, l := range []string{"5 5, 5 5, 5 5", "0 0, 0 0, 0 0", "1/3 -7, 2/6 -7, 3/9 -14/2, 4/12 -7", "9/0 0, 0 8/0, -0 0/5"} {
		told(t, path(l), true, "0 0, 5 5, 5 6, 6 5, 4 5, 5 4, -1000000000000000000000 1/7")
		measured(t, path(l), "0", "")
	}
}

// P20.3: spots on one line: the whole line is to the right of no way, and all beside it lies to the right of one.
func TestInsideLine(t *testing.T) {
	for _, l := range []string{"0 0, 1 1, 2 2", "1 1, 0 0, 2 2", "0 0, 0 0, 3 3", "0 0, 3 3, 3 3", "1/2 1/2, 3 3, 1/2 1/2", "0 0, 4 4, 2 2, 3 3"} {
		told(t, path(l), true, "0 0, 1 1, 1/2 1/2, 7 7, -7 -7")
		told(t, path(l), false, "1 0, 0 1, 7 8, 1/2 499999999/1000000000, 1/2 500000001/1000000000")
	}
}

// P20.3: polygons that turn right: nothing is to the right of none of their ways.
func TestInsideRight(t *testing.T) {
	for _, l := range []string{"0 2, 2 2, 2 0, 0 0", "0 0, 0 1, 1 0", "0 0, 0 1/3, 1/3 0"} {
		told(t, path(l), false, "1 1, 0 0, 0 2, 2 2, 2 0, 1 0, 0 1, 2 1, 1/9 1/9, 1/3 1/3, 3 3, -1 -1, 0 1/3")
	}
}

// P20.3: polygons that turn both ways, and that cross themselves: what lies to the right of some way is not inside, though the polygon be round about it.
func TestInsideTurning(t *testing.T) {
	corner := path("0 0, 4 0, 4 1, 1 1, 1 4, 0 4")
	told(t, corner, true, "1/2 1/2, 0 0, 1 1, 1 0, 0 1")
	told(t, corner, false, "3 1/2, 1/2 3, 2 2, 4 0, 0 4, 4 1, 1 4, 1 5/4")
	star := path("0 3, -2 -3, 3 1, -3 1, 2 -3")
	told(t, star, true, "0 0, 1/2 0, 0 -1, 0 1")
	told(t, star, false, "0 3, -2 -3, 3 1, -3 1, 2 -3, 0 2, 5/2 1, 0 -3")
	told(t, path("0 0, 2 2, 2 0, 0 2"), false, "1 1, 1/2 1, 3/2 1, 0 0, 2 2, 1 3")
	told(t, path("0 0, 2 0, 2 2, 0 2, 0 0, 2 0, 2 2, 0 2"), true, "1 1, 0 0, 2 1")
	told(t, path("0 0, 2 0, 2 2, 0 2, 0 0, 2 0, 2 2, 0 2"), false, "3 1, -1/7 0")
}

// P20.3, against the words: spots of any kind about polygons of any kind.
func TestInsideRandom(t *testing.T) {
	r := rand.New(rand.NewSource(11))
	met := [2]int{}
	for i := range 6000 {
		l := somePath(r, r.Intn(6))
		switch {
		case i%3 == 0 && len(l) > 0:
			l = hull(l)
		case i%3 == 1:
			for k := range l {
				l[k] = vec(r.Int63n(4), r.Int63n(4))
			}
		}
		s := someSpot(r)
		if len(l) > 1 && r.Intn(2) == 0 {
			s = l[0].toward(l[1], big.NewRat(r.Int63n(5)-1, 3))
		}
		if i%3 == 1 {
			s = vector{big.NewRat(r.Int63n(13), 4), big.NewRat(r.Int63n(13), 4)}
		}
		if holdInside(t, otherForms(r, spots(l)), s.spot()) {
			met[1]++
		} else {
			met[0]++
		}
	}
	if min(met[0], met[1]) < 300 {
		t.Error(met)
	}
}
