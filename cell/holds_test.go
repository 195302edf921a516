package cell_test

import (
	"math"
	"math/big"
	"math/rand"
	"slices"
	"strconv"
	"testing"

	"zellige/api"
	"zellige/cell"
)

// ask asks Holds, which is to tell so.
func ask(t *testing.T, l []api.Place, n int64, id int, s string, want bool) {
	t.Helper()
	if got := holds(t, l, n, id, spot(t, s)); got != want {
		t.Fatalf("Holds(%v, %d, %d, %s): %v", l, n, id, s, got)
	}
}

// P19.2: false, if the id is none of the places.
func TestHoldsUnknownID(t *testing.T) {
	l := []api.Place{place(3, 1, 1), place(8, 5, 5)}
	for _, id := range []int{0, 1, 2, 4, 7, 9, -3, math.MinInt64, math.MaxInt64} {
		for _, s := range []string{"1 1", "5 5", "0 0", "3 3"} {
			ask(t, l, 10, id, s, false)
			ask(t, nil, 10, id, s, false)
			ask(t, []api.Place{}, 10, id, s, false)
		}
	}
	for _, id := range []int{math.MinInt64, -1, 0, math.MaxInt64} {
		ask(t, []api.Place{place(id, 1, 1), place(8, 5, 5)}, 10, id, "1 1", true)
	}
}

// P19.2: false, if n is not from 1 to MaxN.
func TestHoldsSide(t *testing.T) {
	l := []api.Place{place(0, 0, 0)}
	for _, c := range []struct {
		n  int64
		ok bool
	}{
		{1, true}, {2, true}, {3, true}, {maxN - 1, true}, {maxN, true},
		{0, false}, {-1, false}, {-10, false}, {-maxN, false}, {maxN + 1, false}, {1 << 34, false}, {end, false}, {1 << 62, false},
		{math.MinInt64, false}, {math.MinInt64 + 1, false}, {math.MaxInt64, false},
	} {
		ask(t, l, c.n, 0, "0 0", c.ok)
	}
}

// P19.2: false, if a site can't be reckoned with, the id's own or another one, whichever of its numbers it is.
func TestHoldsFarSite(t *testing.T) {
	for _, far := range []int64{end + 1, 1 << 41, 1 << 62, math.MaxInt64, -end - 1, -1 << 41, math.MinInt64, math.MinInt64 + 1} {
		for _, p := range []api.Point{at(far, 3), at(3, far), at(far, far)} {
			own := strconv.FormatInt(p.X, 10) + " " + strconv.FormatInt(p.Y, 10)
			ask(t, []api.Place{{ID: 0, At: p}}, 10, 0, own, false)
			for _, l := range [][]api.Place{{place(0, 0, 0), {ID: 1, At: p}}, {{ID: 1, At: p}, place(0, 0, 0)}, {place(0, 0, 0), {ID: 0, At: p}}, {place(0, 0, 0), place(2, 5, 5), {ID: 1, At: p}}} {
				ask(t, l, 10, 0, "0 0", false)
				ask(t, l, 10, 0, "1/2 -1/3", false)
			}
		}
	}
}

// P19.2: false, too, if a site can be, but not two sides off.
func TestHoldsFarOff(t *testing.T) {
	for _, n := range []int64{1, 10, maxN} {
		for _, far := range []int64{end - 2*n, 2*n - end} {
			for _, c := range []struct {
				more int64
				ok   bool
			}{{0, true}, {1, false}, {n, false}, {2 * n, false}} {
				more := c.more
				if far < 0 {
					more = -more
				}
				for _, p := range []api.Point{at(far+more, 3), at(3, far+more)} {
					own := strconv.FormatInt(p.X, 10) + " " + strconv.FormatInt(p.Y, 10)
					ask(t, []api.Place{{ID: 0, At: p}}, n, 0, own, c.ok)
					ask(t, []api.Place{place(0, 0, 0), {ID: 1, At: p}}, n, 0, "0 0", c.ok)
				}
			}
		}
	}
}

// P19.2: a spot just as near to two sites is in both cells; a trifle nearer to one it is in that one's alone.
func TestHoldsBetween(t *testing.T) {
	l := []api.Place{place(0, 0, 0), place(1, 4, 0), place(2, 0, 5)}
	for _, c := range []struct {
		s    string
		want [3]bool
	}{
		{"2 0", [3]bool{true, true, false}}, {"2 -1/7", [3]bool{true, true, false}}, {"2 2", [3]bool{true, true, false}},
		{"1999999999999/1000000000000 0", [3]bool{true, false, false}}, {"2000000000001/1000000000000 0", [3]bool{false, true, false}},
		{"0 5/2", [3]bool{true, false, true}}, {"0 2499999999999/1000000000000", [3]bool{true, false, false}}, {"0 2500000000001/1000000000000", [3]bool{false, false, true}},
		{"2 9/10", [3]bool{true, true, false}}, {"2 5/2", [3]bool{true, true, true}}, {"2 13/5", [3]bool{false, false, true}},
		{"0 0", [3]bool{true, false, false}}, {"4 0", [3]bool{false, true, false}}, {"0 5", [3]bool{false, false, true}},
	} {
		for id, want := range c.want {
			ask(t, l, 10, id, c.s, want)
		}
	}
}

// P19.2: a site one side off, or two, may be nearer, the id's own too; three sides off it is not asked for.
func TestHoldsSidesOff(t *testing.T) {
	one := []api.Place{place(0, 0, 0)}
	for _, c := range []struct {
		s    string
		want bool
	}{
		{"5 0", true}, {"-5 0", true}, {"0 5", true}, {"0 -5", true}, {"5 5", true}, {"-5 -5", true}, {"5 -5", true}, {"-5 5", true},
		{"51/10 0", false}, {"-51/10 0", false}, {"0 51/10", false}, {"0 -51/10", false}, {"-5 -501/100", false}, {"501/100 5", false},
		{"10 0", false}, {"0 -10", false}, {"20 0", false}, {"0 20", false}, {"-20 20", false}, {"19 -21", false}, {"1000 1000", false},
	} {
		ask(t, one, 10, 0, c.s, c.want)
	}
	// Another one, one side off: to the right, to the left, above, below, both.
	two := []api.Place{place(0, 0, 0), place(1, 5, 5)}
	ask(t, two, 10, 0, "-3 -3", false)
	ask(t, two, 10, 0, "-3 3", false)
	ask(t, two, 10, 0, "3 -3", false)
	ask(t, two, 10, 1, "7 7", true)
	ask(t, two, 10, 1, "8 8", false)
	ask(t, two, 10, 1, "13/2 17/2", true)
	ask(t, two, 10, 1, "13/2 87/10", false)
	// Sites that are told off the first square: only by two sides off is the other one nearer.
	for _, c := range []struct {
		p    api.Point
		want bool
	}{
		{at(-15, 0), false}, {at(-25, 0), true}, {at(25, 0), false}, {at(35, 0), true},
		{at(5, -20), false}, {at(5, -30), true}, {at(5, 20), false}, {at(5, 30), true},
		{at(-15, 20), false}, {at(-15, -30), true}, {at(-25, 20), true}, {at(25, -20), false},
	} {
		l := []api.Place{place(0, 0, 0), {ID: 1, At: c.p}}
		ask(t, l, 10, 0, "4 0", c.want)
		slices.Reverse(l)
		ask(t, l, 10, 0, "4 0", c.want)
	}
}

// P19.2: spots that are no whole numbers, below nought, far out, and told in other than lowest terms, or over nought.
func TestHoldsSpots(t *testing.T) {
	l := []api.Place{place(0, 0, 0), place(1, 5, 5)}
	ask(t, l, 10, 0, "5/3 -22/7", true)
	ask(t, l, 10, 0, "-5/3 -22/7", true)
	ask(t, l, 10, 0, "-5/3 -24/7", false)
	ask(t, l, 10, 1, "10/3 10/3", true)
	ask(t, l, 10, 1, "1/3 14/3", true)
	ask(t, l, 10, 1, "1/3 13/3", false)
	great := "1" + string(slices.Repeat([]byte("0"), 500))
	for _, s := range []string{great + " 0", "0 -" + great, "-" + great + " " + great, great + "/7 1/" + great} {
		ask(t, l, 10, 0, s, false)
		ask(t, l, 10, 1, s, false)
	}
	ask(t, l, 10, 0, "1/"+great+" -1/"+great, true)
	ask(t, l, 10, 1, "1/"+great+" -1/"+great, false)
	ask(t, l, 10, 0, "-5 1/"+great, false)
	ask(t, l, 10, 0, "-5 0", true)
	// 5 as 20 / 4, with noughts at the end; nought over nought, and 7 over nought, are nought.
	five := api.Rat{Num: api.Int{Mag: api.Nat{20, 0, 0}}, Den: api.Nat{4, 0}}
	nought := api.Rat{Num: api.Int{Neg: true, Mag: api.Nat{7}}, Den: api.Nat{0, 0}}
	for _, c := range []struct {
		s         api.Spot
		zero, one bool
	}{
		{api.Spot{X: five, Y: five}, false, true}, {api.Spot{X: five, Y: nought}, true, true}, {api.Spot{X: nought, Y: five}, true, true},
		{api.Spot{X: nought, Y: nought}, true, false}, {api.Spot{}, true, false}, {api.Spot{X: five}, true, true},
	} {
		if holds(t, l, 10, 0, c.s) != c.zero || holds(t, l, 10, 1, c.s) != c.one {
			t.Error(c.s)
		}
	}
}

// P19.2: of an id that is told twice the first place is the id's, and all of them are sites.
func TestHoldsTwice(t *testing.T) {
	l := []api.Place{place(0, 0, 0), place(0, 5, 5)}
	ask(t, l, 10, 0, "0 0", true)
	ask(t, l, 10, 0, "5 0", true)
	ask(t, l, 10, 0, "3 3", false)
	ask(t, l, 10, 0, "5 5", false)
	slices.Reverse(l)
	ask(t, l, 10, 0, "5 5", true)
	ask(t, l, 10, 0, "3 3", true)
	ask(t, l, 10, 0, "0 0", false)
	// The same site twice is as near as itself.
	ask(t, []api.Place{place(0, 1, 1), place(0, 1, 1), place(1, 1, 1)}, 10, 0, "2 2", true)
	ask(t, []api.Place{place(0, 1, 1), place(0, 1, 1), place(1, 1, 1)}, 10, 1, "2 2", true)
}

// P19.2, against the words: places, in the first square and off it, and spots of any kind.
func TestHoldsRandom(t *testing.T) {
	r := rand.New(rand.NewSource(11))
	met := [2]int{}
	for range 5000 {
		n := []int64{1, 2, 3, 10, 1000, maxN}[r.Intn(6)]
		from, wide := int64(0), n
		if r.Intn(3) == 0 {
			from, wide = -4*n, 9*n
		}
		var l []api.Place
		for range 1 + r.Intn(5) {
			l = append(l, place(r.Intn(4), from+r.Int63n(wide), from+r.Int63n(wide)))
		}
		id := l[r.Intn(len(l))].ID
		site, _ := firstOf(l, id)
		// A spot near the site: most of them are about as far from it as the cell's border.
		some := func(c int64) *big.Rat {
			den := 1 + r.Int63n(9)
			return big.NewRat(c*den+r.Int63n(2*n*den+1)-n*den, den)
		}
		if holds(t, l, n, id, spotOf(t, vector{some(site.X), some(site.Y)})) {
			met[1]++
		} else {
			met[0]++
		}
	}
	if min(met[0], met[1]) < 500 {
		t.Error(met)
	}
}

// No call panics, whatever numbers it is given.
func TestHoldsGreat(t *testing.T) {
	great := []int64{math.MinInt64, math.MinInt64 + 1, -end - 1, -end, 2*maxN - end, -1, 0, 1, 10, maxN, end - 2*maxN, end - 20, end, end + 1, math.MaxInt64}
	r := rand.New(rand.NewSource(12))
	one := func() int64 { return great[r.Intn(len(great))] }
	for range 3000 {
		l := []api.Place{place(int(one()), one(), one()), place(int(one()), one(), one())}
		s := spotOf(t, vector{new(big.Rat).SetInt64(one()), new(big.Rat).SetInt64(one())})
		for _, n := range []int64{1, 10, maxN, one()} {
			holds(t, l, n, l[r.Intn(2)].ID, s)
		}
	}
}

// Memory: what is handed in is left, its spare room too, and the same is told each time.
func TestHoldsKeeps(t *testing.T) {
	l := []api.Place{place(7, 5, 5), place(2, 0, 0), place(-1, 9, 9), place(-2, 8, 8)}
	kept := slices.Clone(l)
	s := spot(t, "3 3")
	s.X.Num.Mag = append(s.X.Num.Mag, 0, 5, 6)[:2]
	for range 20 {
		if !cell.Holds(l[:2], 10, 7, s) || cell.Holds(l[:2], 10, 2, s) {
			t.Fatal("another answer")
		}
	}
	if !slices.Equal(l, kept) || !slices.Equal(s.X.Num.Mag[:4], api.Nat{3, 0, 5, 6}) {
		t.Fatal(l, s)
	}
}
