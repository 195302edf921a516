package poly_test

import (
	"math/big"
	"math/rand"
	"slices"
	"testing"

	"zellige/api"
	"zellige/poly"
	"zellige/rat"
)

// measured holds that twice the polygon's area and its centroid are these; that it has none, if there is no text.
func measured(t *testing.T, l []api.Spot, area, center string) {
	t.Helper()
	if got := rat.Show(holdArea2(t, l)); got != area {
		t.Errorf("Area2(%s): %s, not %s", text(l), got, area)
	}
	got, ok := holdCentroid(t, l)
	if center == "" {
		if ok || !isNought(got.X) || !isNought(got.Y) {
			t.Errorf("Centroid(%s): %v %v", text(l), got, ok)
		}
		return
	}
	if !ok || show(got) != center {
		t.Errorf("Centroid(%s): %s %v, not %s", text(l), show(got), ok, center)
	}
}

// Example 1.
func TestExample(t *testing.T) {
	measured(t, path("0 0, 2 0, 2 2, 0 2"), "8", "1 1")
}

// P20.1, P20.2: fewer than three spots have no area and no centroid, wherever they lie.
func TestFew(t *testing.T) {
	measured(t, nil, "0", "")
	measured(t, []api.Spot{}, "0", "")
	measured(t, make([]api.Spot, 0, 5), "0", "")
	for _, s := range []string{"0 0", "3 4", "-1/2 7/3", "123456789012345678901234567890 -1/98765432109876543210"} {
		measured(t, path(s), "0", "")
		measured(t, path(s+", "+s), "0", "")
		for _, u := range []string{"0 0", "5 -4", "1/7 2/7", "-1 0"} {
			measured(t, path(s+", "+u), "0", "")
			measured(t, path(u+", "+s), "0", "")
		}
	}
}

// P20.1, P20.2: three spots, turning left and turning right.
func TestThree(t *testing.T) {
	for _, c := range []struct{ l, area, center string }{
		{"0 0, 1 0, 0 1", "1", "1/3 1/3"},
		{"1 0, 0 1, 0 0", "1", "1/3 1/3"},
		{"0 1, 0 0, 1 0", "1", "1/3 1/3"},
		{"0 0, 0 1, 1 0", "-1", "1/3 1/3"},
		{"5 5, 6 5, 5 6", "1", "16/3 16/3"},
		{"-5 -5, -4 -5, -5 -4", "1", "-14/3 -14/3"},
		{"0 0, 4 0, 0 3", "12", "4/3 1"},
		{"0 0, 0 3, 4 0", "-12", "4/3 1"},
		{"-1 0, 1 0, 0 7", "14", "0 7/3"},
		{"0 -1, 7 0, 0 1", "14", "7/3 0"},
		{"0 0, 1/2 0, 0 1/3", "1/6", "1/6 1/9"},
		{"1/2 1/3, 3/4 2/5, 1/6 7/8", "227/1440", "17/36 193/360"},
		{"0 0, 1/1000000007 0, 0 1/998244353", "1/998244359987710471", "1/3000000021 1/2994733059"},
	} {
		measured(t, path(c.l), c.area, c.center)
	}
}

// P20.1, P20.2: more spots, that turn left all the way round and that don't, with centroids inside and outside.
func TestMore(t *testing.T) {
	for _, c := range []struct{ l, area, center string }{
		{"0 2, 2 2, 2 0, 0 0", "-8", "1 1"},
		{"0 0, 4 0, 4 1, 1 1, 1 4, 0 4", "14", "19/14 19/14"},
		{"-1 -1, 3 -1, 3 3, -1 3", "32", "1 1"},
		{"0 0, 9 0, 9 1, 0 1", "18", "9/2 1/2"},
		{"0 0, 4 0, 3 2, 1 2", "12", "2 8/9"},
		{"0 0, 6 0, 6 6, 5 6, 5 1, 1 1, 1 6, 0 6", "32", "3 19/8"},
		{"2 0, 1 2, -1 2, -2 0, -1 -2, 1 -2", "24", "0 0"},
		{"0 0, 1/2 0, 1/2 1/2, 1/2 1/2, 0 1/2", "1/2", "1/4 1/4"},
		{"1/2 1/3, 7/2 1/3, 7/2 4/3, 1/2 4/3", "6", "2 5/6"},
	} {
		measured(t, path(c.l), c.area, c.center)
	}
}

// P20.1, P20.2: spots on one line have no area, however they go to and fro on it; nor do spots that are all the same.
func TestLine(t *testing.T) {
	for _, l := range []string{
		"0 0, 1 1, 2 2", "5 5, 5 5, 5 5", "0 0, 0 0, 0 0", "1 1, 1 1, 2 3", "1 1, 2 3, 1 1", "1 1, 2 3, 2 3",
		"0 7, 3 7, -2 7, 8 7", "7 0, 7 3, 7 -2, 7 8", "0 0, 1/3 1/7, 2/3 2/7, -5/3 -5/7", "1/2 1/2, 1/3 1/3, 1/5 1/5, 1/7 1/7",
		"0 1, 1000000000000 3, 500000000000 2", "1 2, 3 5, 5 8, 3 5",
	} {
		measured(t, path(l), "0", "")
	}
	// A trifle beside the line there is an area.
	measured(t, path("0 0, 1 1, 2 1999999999999/1000000000000"), "-1/1000000000000", "1 2999999999999/3000000000000")
	measured(t, path("0 0, 1 1, 2 2000000000001/1000000000000"), "1/1000000000000", "1 3000000000001/3000000000000")
}

// P20.1, P20.2: ways that cross: what lies to the left counts, what lies to the right counts less, and what is gone about twice counts twice.
func TestCross(t *testing.T) {
	for _, c := range []struct{ l, area, center string }{
		// Both wings alike: nothing is left.
		{"0 0, 2 2, 2 0, 0 2", "0", ""},
		{"0 0, 3 1, 3 0, 0 1", "0", ""},
		// The right one is greater, and lies to the right of its ways.
		{"0 0, 3 3, 3 -3, 0 0, -1 1, -1 -1", "-16", "7/3 0"},
		{"0 0, 1 -1, 4 2, 4 -2, 1 1", "-4", "17/3 0"},
		{"0 0, 4 0, 4 4, 0 4, 0 0, 1 0, 1 1, 0 1", "34", "65/34 65/34"},
		{"0 0, 4 0, 4 4, 0 4, 0 0, 0 1, 1 1, 1 0", "30", "21/10 21/10"},
		// Twice about the same.
		{"0 0, 2 0, 2 2, 0 2, 0 0, 2 0, 2 2, 0 2", "16", "1 1"},
		{"0 0, 2 0, 2 2, 0 2, 0 0, 0 2, 2 2, 2 0", "0", ""},
		// A star of five points: its middle counts twice.
		{"0 3, -2 -3, 3 1, -3 1, 2 -3", "32", "0 -1/6"},
	} {
		measured(t, path(c.l), c.area, c.center)
	}
}

// P20.1, P20.2: a fraction is the same in whatever form it stands; one whose Den is nought is nought.
func TestForms(t *testing.T) {
	for _, c := range []struct{ l, area, center string }{
		{"0/7 0/3, 4/2 -0, 6/3 10/5, -0/9 14/7", "8", "1 1"},
		{"5/0 -7/0, 2 1/0, 2 2, -0/0 2", "8", "1 1"},
		{"3/0 0, 4/4 8/0, 9/0 3/3", "1", "1/3 1/3"},
		{"-6/4 0, 6/4 0, 0 18/12", "9/2", "0 1/2"},
		{"1/0 1/0, 2/0 3/0, 4/0 5/0", "0", ""},
		{"1 1, 2/0 0, 1 1/0", "1", "2/3 1/3"},
	} {
		measured(t, path(c.l), c.area, c.center)
	}
	// Each nought in each place of a square and of a triangle, of which it is a corner.
	for _, z := range noughts() {
		one := number("1")
		l := []api.Spot{{X: z, Y: z}, {X: one, Y: z}, {X: one, Y: one}, {X: z, Y: one}}
		measured(t, l, "2", "1/2 1/2")
		measured(t, l[1:], "1", "2/3 2/3")
		measured(t, l[:3], "1", "2/3 1/3")
		measured(t, []api.Spot{l[0], l[0], l[0]}, "0", "")
		for _, s := range l {
			if !holdInside(t, l, s) || holdInside(t, l, api.Spot{X: number("-1/9"), Y: z}) || holdInside(t, l, api.Spot{X: z, Y: number("10/9")}) {
				t.Error(z, show(s))
			}
		}
	}
	r := rand.New(rand.NewSource(1))
	for range 400 {
		l := spots(somePath(r, r.Intn(7)))
		other := otherForms(r, l)
		s := someSpot(r).spot()
		center, ok := poly.Centroid(l)
		if got, ok2 := holdCentroid(t, other); ok != ok2 || !sameSpot(got, center) {
			t.Fatal(text(l))
		}
		if !sameRat(holdArea2(t, other), poly.Area2(l)) || holdInside(t, other, otherForms(r, []api.Spot{s})[0]) != poly.Inside(l, s) {
			t.Fatal(text(l), show(s))
		}
	}
}

// P20.1, P20.2: what is told is in its one form: lowest terms, words without noughts at the end, nought as 0 / 1.
func TestOneForm(t *testing.T) {
	r := rand.New(rand.NewSource(2))
	met := map[int]int{}
	for range 2000 {
		l := otherForms(r, spots(somePath(r, r.Intn(8))))
		area := holdArea2(t, l)
		center, ok := holdCentroid(t, l)
		if !lowest(area) || !lowest(center.X) || !lowest(center.Y) || ok == isNought(area) {
			t.Fatal(text(l), area, center, ok)
		}
		met[rat.Sign(area)]++
	}
	if len(met) != 3 || min(met[-1], met[0], met[1]) < 100 {
		t.Error(met)
	}
}

// P20.1, P20.2: however many spots there are; a comb's area and center are known.
func TestMany(t *testing.T) {
	r := rand.New(rand.NewSource(3))
	for many := range 70 {
		hold(t, spots(somePath(r, many)))
	}
	// Teeth as high as they are far from one another by half, on a beam: all of it from -1 to 0, half of it from 0 to 1.
	for _, teeth := range []int64{1, 2, 3, 1000, 20000} {
		l := []vector{vec(0, -1), vec(2*teeth, -1), vec(2*teeth, 0)}
		for i := teeth - 1; i >= 0; i-- {
			l = append(l, vec(2*i+1, 1), vec(2*i, 0))
		}
		area := poly.Area2(spots(l))
		center, ok := poly.Centroid(spots(l))
		if rat.Show(area) != big.NewInt(6*teeth).String() || !ok {
			t.Fatal(teeth, rat.Show(area), ok)
		}
		// Two thirds of it have their middle at -1/2, one third at 1/3.
		if want := vec(teeth, 0).plus(vector{new(big.Rat), big.NewRat(-2, 9)}); !vecOf(center).same(want) {
			t.Fatal(teeth, show(center))
		}
	}
}

// P20.1, P20.2: many spots whose Dens have nothing in common, so that the answers are long.
func TestLong(t *testing.T) {
	r := rand.New(rand.NewSource(4))
	var l []vector
	for range 500 {
		l = append(l, vector{big.NewRat(r.Int63(), 1+r.Int63n(1<<40)), big.NewRat(r.Int63(), 1+r.Int63n(1<<40))})
	}
	area := holdArea2(t, spots(l))
	if len(area.Den) < 500 {
		t.Error(len(area.Den))
	}
	holdCentroid(t, spots(l))
	if holdInside(t, spots(l), l[0].spot()) {
		t.Error("inside")
	}
}

// lists are all lists of these fractions.
func lists(all ...api.Rat) []api.Nat {
	var out []api.Nat
	for _, a := range all {
		out = append(out, a.Num.Mag, a.Den)
	}
	return out
}

// roomy is the list with spare room behind it, which is filled.
func roomy(list api.Nat) api.Nat {
	return append(slices.Clone(list), 7, 8, 9)[:len(list)]
}

// spoil writes over all that a list has room for.
func spoil(list api.Nat) {
	list = list[:cap(list)]
	for i := range list {
		list[i] = ^list[i]
	}
}

// Memory: what is handed in is left, spare room too; no list of an answer is shared with it, or with another one.
func TestMemory(t *testing.T) {
	for _, s := range []string{
		"", "3 4", "3 4, 5 6", "0 0, 1 1, 2 2", "0 0, 2 0, 2 2, 0 2", "1/2 1/3, 3/4 2/5, 1/6 7/8", "0 0, 0 1, 1 0", "5/0 0, 1 0/0, 0 1",
		"3 3, 3 3, 3 3", "0 0, 123456789012345678901234567890 1, 1/98765432109876543210 7",
	} {
		l := append(path(s), spot("77 78"), spot("79 80"))
		var given, kept []api.Nat
		for i := range l {
			for _, list := range []*api.Nat{&l[i].X.Num.Mag, &l[i].X.Den, &l[i].Y.Num.Mag, &l[i].Y.Den} {
				*list = roomy(*list)
				given = append(given, *list)
				kept = append(kept, slices.Clone((*list)[:len(*list)+3]))
			}
		}
		whole := slices.Clone(l)
		for k := range l {
			area := poly.Area2(l[:k])
			center, _ := poly.Centroid(l[:k])
			poly.Inside(l[:k], l[k])
			again, _ := poly.Centroid(l[:k])
			all := lists(area, center.X, center.Y, poly.Area2(l[:k]), again.X, again.Y)
			var want []api.Nat
			for _, list := range all {
				want = append(want, slices.Clone(list))
			}
			for i, list := range all {
				if !slices.Equal(list, want[i]) {
					t.Fatal("shared by answers", s, k, i)
				}
				spoil(list)
			}
			for i, list := range given {
				if !slices.Equal(list[:len(list)+3], kept[i]) {
					t.Fatal("changed", s, k, i)
				}
			}
			if !slices.EqualFunc(l, whole, sameSpot) {
				t.Fatal("changed", s, k)
			}
		}
	}
}

// From arguments alone: the same is told however often one asks, and whatever was asked ahead.
func TestAgain(t *testing.T) {
	l := path("0 0, 4 0, 4 1, 1 1, 1 4, 0 4")
	for range 5 {
		measured(t, l, "14", "19/14 19/14")
		measured(t, nil, "0", "")
		measured(t, back(l), "-14", "19/14 19/14")
	}
}
