package dct

import (
	"math"
	"testing"

	"cyanotype/api"
	"cyanotype/num"
)

func TestExamples(t *testing.T) {
	wantBlock(t, "Forward", all(8), Forward(all(8)), api.Block{64})
	wantBlock(t, "Back", api.Block{64}, Back(api.Block{64}), all(8))
	wantBlock(t, "ForwardSec", all(8), forwardHidden(all(8)), api.Block{64})
	wantBlock(t, "BackSec", api.Block{64}, backHidden(api.Block{64}), all(8))
}

// Numbers that are worked out by hand, so that the tests' own sums are held against something too.
func TestWrittenOut(t *testing.T) {
	// 1000 by 514214 by 370728, by 2^40, is 173.38..; of the others of that row 146.98.., 98.21.., 34.48..
	edge := Back(alone(1, 1000))
	for y := range 8 {
		for x, want := range []int{173, 147, 98, 34, -34, -98, -147, -173} {
			if got := edge[8*y+x]; got != want {
				t.Errorf("Back of 1000 across: at %d, %d is %d, want %d", x, y, got, want)
			}
		}
	}
	// The same down: what goes across at 1 goes down at 8.
	down := Back(alone(8, 1000))
	for x := range 8 {
		for y, want := range []int{173, 147, 98, 34, -34, -98, -147, -173} {
			if got := down[8*y+x]; got != want {
				t.Errorf("Back of 1000 down: at %d, %d is %d, want %d", x, y, got, want)
			}
		}
	}
	// 4000 at its first place: by 370728 by 484379, by 2^40, it is 653.28..; down it is the same at 16.
	first := Forward(alone(0, 4000))
	for place, want := range map[int]int{0: 500, 1: 694, 2: 653, 8: 694, 16: 653, 9: 962, 63: 38} {
		if first[place] != want {
			t.Errorf("Forward of 4000: at %d is %d, want %d", place, first[place], want)
		}
	}
}

func TestAgainstSums(t *testing.T) {
	for _, way := range calls() {
		for _, b := range blocks(way) {
			wantBlock(t, way.name, b, way.plain(b), way.want(b))
		}
	}
}

// One number alone at each place, each of those that the document names.
func TestOneAloneAgainstSums(t *testing.T) {
	for _, way := range calls() {
		for _, n := range append(inside(), ends()...) {
			for place := range 64 {
				b := alone(place, n)
				wantBlock(t, way.name, b, way.plain(b), way.want(b))
			}
		}
	}
}

// One alone is told by two factors: a place's across and down are not taken for one another.
func TestOneAloneByTwoFactors(t *testing.T) {
	for place := range 64 {
		far, near := Forward(alone(place, 4096)), Back(alone(place, 32767))
		for told := range 64 {
			x, y, u, v := place%8, place/8, told%8, told/8
			if want := num.Round(4096*factorOf(u, x)*factorOf(v, y), 1<<40); far[told] != want {
				t.Errorf("Forward of one at %d: at %d is %d, want %d", place, told, far[told], want)
			}
			if want := num.Round(32767*factorOf(x, u)*factorOf(y, v), 1<<40); near[told] != want {
				t.Errorf("Back of one at %d: at %d is %d, want %d", place, told, near[told], want)
			}
		}
	}
}

// Of one number 64 times there is the first frequency alone, and the other way round.
func TestOneNumberAlone(t *testing.T) {
	for n := -4200; n <= 4200; n++ {
		c := max(-4096, min(n, 4096))
		wantBlock(t, "Forward", all(n), Forward(all(n)), api.Block{8 * c})
	}
	for n := -4100; n <= 4100; n++ {
		want := all(max(-4096, min(n, 4096))) // 32767 by 8 is nearest to 4096 too
		wantBlock(t, "Back", api.Block{8 * n}, Back(api.Block{8 * n}), want)
	}
}

// Whatever is beyond an end is as that end, at each place, with others beside it.
func TestBeyondIsAsTheEnd(t *testing.T) {
	for i, way := range calls() {
		for _, n := range ends() {
			for place := range 64 {
				b := drawn(place+i, -4096, 4096)
				b[place] = n
				wantBlock(t, way.name, b, way.plain(b), way.plain(clipped(b, way.low, way.high)))
				wantBlock(t, way.name+"Sec", b, way.secret(b), way.plain(clipped(b, way.low, way.high)))
			}
		}
	}
}

// What is at an end is not as what is beside it within: the ends are taken as they are.
func TestEndsAreTaken(t *testing.T) {
	for _, c := range []struct {
		call      func(api.Block) api.Block
		name      string
		end, next int
	}{
		{Forward, "Forward", 4096, 4095}, {Forward, "Forward", -4096, -4095},
		{Back, "Back", 32767, 32759}, {Back, "Back", -32768, -32759},
		{forwardHidden, "ForwardSec", 4096, 4095}, {forwardHidden, "ForwardSec", -4096, -4095},
		{backHidden, "BackSec", 32767, 32759}, {backHidden, "BackSec", -32768, -32759},
	} {
		if c.call(all(c.end)) == c.call(all(c.next)) {
			t.Errorf("%s: %d is as %d", c.name, c.end, c.next)
		}
		if beyond := c.end + c.end - c.next; c.call(all(c.end)) != c.call(all(beyond)) {
			t.Errorf("%s: %d is not as %d", c.name, beyond, c.end)
		}
	}
}

// tieThere is a block of which the sum at 1 is just 23170.5 times 2^40.
func tieThere() api.Block {
	var b api.Block
	for y := range 8 {
		row := [8]int{3750, 3750, 2562, 0, 0, -2562, -3750, -3750}
		copy(b[8*y:], row[:])
	}
	b[1], b[6], b[3] = 3749, -3749, -2233
	return b
}

// tieBack is one of which the sums at the left are that, row by row.
func tieBack() api.Block {
	return api.Block{28000, 25998, 25000, 24000, 23000, 22000, 31629, 10930}
}

// negated is a block with the other sign.
func negated(b api.Block) api.Block {
	for i := range b {
		b[i] = -b[i]
	}
	return b
}

// Halves go away from 0, above it and below.
func TestHalves(t *testing.T) {
	for i, way := range calls() {
		tie, places := []api.Block{tieThere(), tieBack()}[i], [][]int{{1}, {0, 8, 16, 24, 32, 40, 48, 56}}[i]
		for _, place := range places {
			if sum := way.sums(tie)[place]; sum != 23170<<40+1<<39 {
				t.Fatalf("%s: the sum at %d is %d", way.name, place, sum)
			}
			for _, call := range []func(api.Block) api.Block{way.plain, way.secret} {
				if got := call(tie)[place]; got != 23171 {
					t.Errorf("%s: at %d is %d, want 23171", way.name, place, got)
				}
				if got := call(negated(tie))[place]; got != -23171 {
					t.Errorf("%s: at %d is %d, want -23171", way.name, place, got)
				}
			}
		}
		wantBlock(t, way.name, tie, way.plain(tie), way.want(tie))
		wantBlock(t, way.name, negated(tie), way.plain(negated(tie)), way.want(negated(tie)))
	}
}

// What is rounded is as far from 0 on either side of it.
func TestOtherSigns(t *testing.T) {
	for _, way := range calls() {
		for seed := range 200 {
			b := drawn(seed, -4096, 4096)
			wantBlock(t, way.name, negated(b), way.plain(negated(b)), negated(way.plain(b)))
			wantBlock(t, way.name+"Sec", negated(b), way.secret(negated(b)), negated(way.plain(b)))
		}
	}
}

// cosines is a block's frequencies, or the block of frequencies, in floats: no whole number goes round there.
func cosines(b api.Block, factor func(told, taken int) float64) [64]float64 {
	var out [64]float64
	for told := range 64 {
		for taken, n := range b {
			out[told] += float64(n) * factor(told%8, taken%8) * factor(told/8, taken/8)
		}
	}
	return out
}

func cosine(u, x int) float64 {
	if u == 0 {
		return math.Sqrt(0.125)
	}
	return math.Cos(float64((2*x+1)*u)*math.Pi/16) / 2
}

// A half may be rounded away, and the factors' own rounding takes less than one more, even where the sums are greatest.
func TestNearTheCosines(t *testing.T) {
	for i, way := range calls() {
		factor := []func(told, taken int) float64{cosine, func(told, taken int) float64 { return cosine(taken, told) }}[i]
		for _, b := range blocks(way) {
			got := way.plain(b)
			for place, want := range cosines(clipped(b, way.low, way.high), factor) {
				if off := math.Abs(float64(got[place]) - want); off > 1.5 {
					t.Fatalf("%s of %v: at %d is %d, off by %f", way.name, b, place, got[place], off)
				}
			}
		}
	}
}
