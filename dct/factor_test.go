package dct

import (
	"math"
	"testing"
)

// noPlaces are numbers of which the table has no row, and no column.
func noPlaces() []int {
	return []int{-1, -2, -7, -8, -9, 8, 9, 15, 16, 63, 64, 65, 255, 256, -256, 1 << 31, 1<<32 + 3, -1 << 32, -1<<32 + 3, 1 << 62, math.MaxInt - 7, math.MaxInt, math.MinInt, math.MinInt + 1}
}

func TestFactorOfTheTable(t *testing.T) {
	if len(parted) != 64 {
		t.Fatalf("the chapter's table has %d numbers", len(parted))
	}
	for u := range 8 {
		for x := range 8 {
			if got := Factor(u, x); got != factorOf(u, x) {
				t.Errorf("Factor(%d, %d) = %d, want %d", u, x, got, factorOf(u, x))
			}
		}
	}
}

func TestFactorIsHalfACosine(t *testing.T) {
	for u := range 8 {
		for x := range 8 {
			half := math.Cos(float64((2*x+1)*u)*math.Pi/16) / 2
			if u == 0 {
				half /= math.Sqrt2
			}
			if want := int(math.Round(half * (1 << 20))); Factor(u, x) != want {
				t.Errorf("Factor(%d, %d) = %d, want %d", u, x, Factor(u, x), want)
			}
		}
	}
}

func TestFactorOfNone(t *testing.T) {
	for _, none := range noPlaces() {
		for n := range 8 {
			if Factor(none, n) != 0 || Factor(n, none) != 0 {
				t.Errorf("Factor(%d, %d) = %d, Factor(%d, %d) = %d", none, n, Factor(none, n), n, none, Factor(n, none))
			}
		}
		for _, other := range noPlaces() {
			if Factor(none, other) != 0 {
				t.Errorf("Factor(%d, %d) = %d", none, other, Factor(none, other))
			}
		}
	}
}
