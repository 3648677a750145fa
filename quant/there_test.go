package quant

import (
	"math"
	"slices"
	"testing"

	"cyanotype/api"
	"cyanotype/sec"
)

// wantNear holds a block against another that it may be off by half a step.
func wantNear(t *testing.T, way string, q []int, got, of api.Block) {
	t.Helper()
	for place, n := range of {
		if off := got[place] - n; 2*off > q[place] || -2*off > q[place] {
			t.Fatalf("%s of %v by %v: at %d is %d", way, of, q, place, got[place])
		}
	}
}

// within is a block with each number as near 0 as the ends of what is told leave it.
func within(b api.Block, q []int) api.Block {
	for place, n := range b {
		most := min(32767, 1023*q[place]+q[place]/2)
		b[place] = max(-most, min(n, most))
	}
	return b
}

func TestThereAndBack(t *testing.T) {
	for _, q := range steps() {
		for _, b := range blocks() {
			b = within(b, q)
			wantNear(t, "Back of Forward", q, Back(Forward(b, q), q), b)
			wantNear(t, "BackSec of ForwardSec", q, opened(BackSec(ForwardSec(hidden(b), q), q)), b)
		}
	}
}

// Whatever is told back is a step's multiple, and told again as it was.
func TestBackAndThere(t *testing.T) {
	for _, q := range steps() {
		for seed := range 20 {
			for _, z := range []api.Block{drawn(seed, -128, 128), drawn(seed, -1, 1), drawn(seed, -128, -1)} {
				wantBlock(t, "Forward of Back", z, q, Forward(Back(z, q), q), z)
				wantBlock(t, "ForwardSec of BackSec", z, q, opened(ForwardSec(BackSec(hidden(z), q), q)), z)
			}
		}
	}
	for seed := range 20 {
		z, q := first(drawn(seed, -1023, 1023), -1024), allSteps(1)
		wantBlock(t, "Forward of Back", z, q, Forward(Back(z, q), q), z)
	}
}

// By steps of 1 nothing is lost.
func TestThereAndBackByOnes(t *testing.T) {
	for n := -1023; n <= 1023; n++ {
		wantBlock(t, "Back of Forward", all(n), allSteps(1), Back(Forward(all(n), allSteps(1)), allSteps(1)), all(n))
	}
}

// noSteps are lists that are no steps: of too few, too many, or of numbers that are none.
func noSteps() [][]int {
	l := [][]int{nil, {}, {1}, {0}, {-1}, rising(1)[:63], rising(1)[:1:1], append(rising(1), 65), make([]int, 1000), make([]int, 63)}
	for _, n := range []int{0, -1, -2, -255, -256, 256, 257, 1000, 32767, 32768, 65535, 65536, 1 << 31, 1 << 32, 1<<32 + 1, 1 << 40, 1<<40 + 1, 1 << 60, 1<<60 + 1, -1 << 32, -1 << 60, math.MaxInt, math.MaxInt - 1, math.MinInt, math.MinInt + 1} {
		mixed := rising(1)
		mixed[0], mixed[9], mixed[63] = n, n, n
		l = append(l, allSteps(n), mixed, allSteps(n)[:33])
	}
	return l
}

// By no steps nothing is promised but an end: that each call has one is all that is asked.
func TestNoSteps(t *testing.T) {
	for _, q := range noSteps() {
		was := slices.Clone(q)
		for _, b := range blocks() {
			for _, way := range calls() {
				way.plain(b, q)
				way.secret(b, q)
			}
		}
		if !slices.Equal(q, was) {
			t.Errorf("%v is %v now", was, q)
		}
	}
}

// A list that is nil and one that is empty are the same thing.
func TestNilAndEmptySteps(t *testing.T) {
	for _, way := range calls() {
		for _, b := range blocks() {
			wantBlock(t, way.name, b, nil, way.plain(b, nil), way.plain(b, []int{}))
			wantBlock(t, way.name+"Sec", b, nil, way.secret(b, nil), way.secret(b, []int{}))
		}
	}
}

// What lies behind a list's end in its memory is not read.
func TestNothingBehindTheSteps(t *testing.T) {
	for _, way := range calls() {
		for seed := range 20 {
			b, longer := drawn(seed, -1000, 1000), append(drawnSteps(seed), drawnSteps(seed+1)...)
			for _, n := range []int{0, 1, 10, 63, 64} {
				wantBlock(t, way.name, b, longer[:n], way.plain(b, longer[:n]), way.plain(b, slices.Clip(slices.Clone(longer[:n]))))
				wantBlock(t, way.name+"Sec", b, longer[:n], way.secret(b, longer[:n]), way.secret(b, slices.Clip(slices.Clone(longer[:n]))))
			}
		}
	}
}

// What is handed in holds what it did, what is told is not changed from outside, and no call is changed by those ahead of it.
func TestNothingIsChangedOrKept(t *testing.T) {
	for _, way := range calls() {
		for seed := range 50 {
			b, q := wild(seed), drawnSteps(seed)
			given, steps, told := b, slices.Clone(q), way.plain(b, q)
			want, second := told, way.plain(b, q)
			if b != given || !slices.Equal(q, steps) {
				t.Fatalf("%s changed what it was handed", way.name)
			}
			second[7], b[9] = 12345, 54321
			clear(q)
			Forward(wild(seed+1), drawnSteps(seed+1))
			Back(wild(seed+2), drawnSteps(seed+2))
			if told != want || way.plain(given, steps) != want {
				t.Fatalf("%s tells another block of %v", way.name, given)
			}
		}
	}
}

func TestNoSecretIsChangedOrKept(t *testing.T) {
	for name, call := range map[string]func([64]sec.Sec, []int) [64]sec.Sec{"ForwardSec": ForwardSec, "BackSec": BackSec} {
		for seed := range 50 {
			b, q := hidden(wild(seed)), drawnSteps(seed)
			given, steps, told := opened(b), slices.Clone(q), call(b, q)
			want, second := opened(told), call(b, q)
			if opened(b) != given || !slices.Equal(q, steps) {
				t.Fatalf("%s changed what it was handed", name)
			}
			second[7], b[9] = sec.Of(12345), sec.Of(54321)
			clear(q)
			ForwardSec(hidden(wild(seed+1)), drawnSteps(seed+1))
			BackSec(hidden(wild(seed+2)), drawnSteps(seed+2))
			if opened(told) != want || opened(call(hidden(given), steps)) != want {
				t.Fatalf("%s tells another block of %v", name, given)
			}
		}
	}
}
