package whole

import (
	"strings"

	"zellige/api"
	"zellige/nat"
)

// minus stands ahead of numbers below nought.
const minus = "-"

// Show is a in decimal digits.
func Show(a api.Int) string {
	if Sign(a) < 0 {
		return minus + nat.Show(a.Mag)
	}
	return nat.Show(a.Mag)
}

// Parse reads what Show has written, of up to MaxDigits digits beside the sign.
func Parse(s string) (api.Int, api.Errno) {
	digits, below := strings.CutPrefix(s, minus)
	mag, err := nat.Parse(digits)
	if err != api.OK {
		return api.Int{}, err
	}
	// Nought has no sign, so that "-0" is no number's text.
	if below && len(mag) == 0 {
		return api.Int{}, api.ErrForm
	}
	return signed(below, mag), api.OK
}
