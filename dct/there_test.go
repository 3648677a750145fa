package dct

import (
	"testing"

	"cyanotype/api"
	"cyanotype/sec"
)

// wantNear holds a block against another that it may be off by what is rounded: 64 halves, each by its factors, of which the greatest sum is 4 there and 3.5 back.
func wantNear(t *testing.T, way string, got, of api.Block) {
	t.Helper()
	for i := range of {
		if off := got[i] - of[i]; off < -4 || off > 4 {
			t.Fatalf("%s of %v: at %d is %d", way, of, i, got[i])
		}
	}
}

func TestThereAndBack(t *testing.T) {
	for seed := range 500 {
		for _, b := range []api.Block{drawn(seed, 0, 255), drawn(seed, -128, 127), drawn(seed, -4096, -1), drawn(seed, -4096, 4096)} {
			wantNear(t, "Back of Forward", Back(Forward(b)), b)
			wantNear(t, "BackSec of ForwardSec", opened(BackSec(ForwardSec(hidden(b)))), b)
		}
	}
	for place := range 64 {
		for _, n := range []int{-4096, -1000, -1, 0, 1, 255, 4095, 4096} {
			wantNear(t, "Back of Forward", Back(Forward(alone(place, n))), alone(place, n))
		}
	}
}

// Frequencies of which no sum goes beyond what Forward takes: 500 by 7 is 3500.
func TestBackAndThere(t *testing.T) {
	for seed := range 500 {
		for _, b := range []api.Block{drawn(seed, -500, 500), drawn(seed, 0, 100), drawn(seed, -500, -1)} {
			wantNear(t, "Forward of Back", Forward(Back(b)), b)
			wantNear(t, "ForwardSec of BackSec", opened(ForwardSec(BackSec(hidden(b)))), b)
		}
	}
	for place := range 64 {
		for _, n := range []int{-4000, -1000, -1, 0, 1, 255, 4000} {
			wantNear(t, "Forward of Back", Forward(Back(alone(place, n))), alone(place, n))
		}
	}
}

// Of one number 64 times nothing is lost.
func TestOneNumberThereAndBack(t *testing.T) {
	for n := -4096; n <= 4096; n++ {
		wantBlock(t, "Back of Forward", all(n), Back(Forward(all(n))), all(n))
	}
}

// What is handed in holds what it did, what is told is not changed from outside, and no call is changed by those ahead of it.
func TestNothingIsChangedOrKept(t *testing.T) {
	for _, way := range calls() {
		for seed := range 50 {
			b := wild(seed)
			given, first := b, way.plain(b)
			want := first
			second := way.plain(b)
			if b != given {
				t.Fatalf("%s changed what it was handed", way.name)
			}
			second[7], b[9] = 12345, 54321
			Forward(wild(seed + 1))
			Back(wild(seed + 2))
			if first != want || way.plain(given) != want {
				t.Fatalf("%s tells another block of %v", way.name, given)
			}
		}
	}
}

func TestNoSecretIsChangedOrKept(t *testing.T) {
	for name, call := range map[string]func([64]sec.Sec) [64]sec.Sec{"ForwardSec": ForwardSec, "BackSec": BackSec} {
		for seed := range 50 {
			b := hidden(wild(seed))
			given, first := opened(b), call(b)
			want := opened(first)
			second := call(b)
			if opened(b) != given {
				t.Fatalf("%s changed what it was handed", name)
			}
			second[7], b[9] = sec.Of(12345), sec.Of(54321)
			ForwardSec(hidden(wild(seed + 1)))
			BackSec(hidden(wild(seed + 2)))
			if opened(first) != want || opened(call(hidden(given))) != want {
				t.Fatalf("%s tells another block of %v", name, given)
			}
		}
	}
}
