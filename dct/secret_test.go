package dct

import (
	"testing"

	"cyanotype/api"
	"cyanotype/sec"
)

func TestSecretsAreAsNumbers(t *testing.T) {
	for _, way := range calls() {
		for _, b := range blocks(way) {
			wantBlock(t, way.name+"Sec", b, way.secret(b), way.plain(b))
			wantBlock(t, way.name+"Sec", b, way.secret(b), way.want(b))
		}
	}
}

func TestOneSecretAlone(t *testing.T) {
	for _, way := range calls() {
		for _, n := range append(inside(), ends()...) {
			for place := range 64 {
				b := alone(place, n)
				wantBlock(t, way.name+"Sec", b, way.secret(b), way.plain(b))
			}
		}
	}
}

// Words that were never laid hold 0.
func TestSecretsOfNoughts(t *testing.T) {
	wantBlock(t, "ForwardSec", api.Block{}, opened(ForwardSec([64]sec.Sec{})), api.Block{})
	wantBlock(t, "BackSec", api.Block{}, opened(BackSec([64]sec.Sec{})), api.Block{})
}

// Sums at a half, beside it, and at the greatest amounts that either way has.
func TestRoundedSecrets(t *testing.T) {
	for _, q := range []int{0, 1, 2, 7, 23170, 32767, 32768, 228000} {
		for _, left := range []int{0, 1, 2, unit/2 - 2, unit/2 - 1, unit / 2, unit/2 + 1, unit - 1} {
			for _, sum := range []int{q*unit + left, -(q*unit + left)} {
				if got := roundedSec(sec.Of(sum)).Open(nil); got != nearest(sum) || rounded(sum) != nearest(sum) {
					t.Errorf("%d is rounded to %d, and %d, want %d", sum, got, rounded(sum), nearest(sum))
				}
			}
		}
	}
}
