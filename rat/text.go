package rat

import (
	"strings"

	"zellige/api"
	"zellige/nat"
	"zellige/whole"
)

// slash stands between Num and Den, where Den is not 1.
const slash = "/"

// Show is a in lowest terms, in decimal digits.
func Show(a api.Rat) string {
	a = Norm(a)
	if nat.Cmp(a.Den, nat.Of(1)) == 0 {
		return whole.Show(a.Num)
	}
	return whole.Show(a.Num) + slash + nat.Show(a.Den)
}

// Parse reads what Show has written, of up to MaxDigits digits on either side.
func Parse(s string) (api.Rat, api.Errno) {
	ahead, behind, both := strings.Cut(s, slash)
	num, err := whole.Parse(ahead)
	if err != api.OK {
		return Of(0), err
	}
	if !both {
		return api.Rat{Num: num, Den: nat.Of(1)}, api.OK
	}
	den, err := nat.Parse(behind)
	if err != api.OK {
		return Of(0), err
	}
	// What is not in lowest terms, and a Den of 1 or nought, is no fraction's Show.
	a := api.Rat{Num: num, Den: den}
	if Show(a) != s {
		return Of(0), api.ErrForm
	}
	return a, api.OK
}
