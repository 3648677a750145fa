package quant

import (
	"testing"

	"cyanotype/api"
)

// Numbers that are worked out by hand, so that the tests' own sums are held against something too.
func TestWrittenOut(t *testing.T) {
	// The steps are 100 at 0, 101 at 1, 107 at 7, 108 at 8, 109 at 9, 116 at 16, 163 at 63.
	b := api.Block{0: 800, 1: -303, 8: 54, 16: 57, 9: -163, 63: 81, 7: 53}
	z := api.Block{0: 8, 1: -3, 2: 1, 3: 0, 4: -1, 63: 0, 28: 0}
	wantBlock(t, "Forward", b, rising(100), Forward(b, rising(100)), z)
	b[63], b[7], b[9], z[63], z[28], z[4] = 82, 54, -164, 1, 1, -2
	wantBlock(t, "Forward", b, rising(100), Forward(b, rising(100)), z)
	b = api.Block{0: 800, 1: -303, 8: 108, 9: -218, 63: 163, 7: 107}
	wantBlock(t, "Back", z, rising(100), Back(z, rising(100)), b)
	// At the ends.
	wantBlock(t, "Forward", all(-5000), allSteps(1), Forward(all(-5000), allSteps(1)), first(all(-1023), -1024))
	wantBlock(t, "Forward", all(5000), allSteps(1), Forward(all(5000), allSteps(1)), all(1023))
	wantBlock(t, "Forward", all(-50000), allSteps(255), Forward(all(-50000), allSteps(255)), all(-128)) // 32767 by 255 is 128.49..
	wantBlock(t, "Back", all(-5000), allSteps(255), Back(all(-5000), allSteps(255)), all(-522240))
	wantBlock(t, "Back", all(5000), allSteps(255), Back(all(5000), allSteps(255)), all(521985))
}

// first is a block with another first number.
func first(b api.Block, n int) api.Block {
	b[0] = n
	return b
}

func TestAgainstTheWords(t *testing.T) {
	for _, way := range calls() {
		for _, q := range steps() {
			for _, b := range blocks() {
				wantBlock(t, way.name, b, q, way.plain(b, q), way.want(b, q))
			}
		}
	}
}

// One number alone at each place, each of those that the document names.
func TestOneAlone(t *testing.T) {
	for _, way := range calls() {
		for _, q := range steps()[:12] {
			for _, n := range numbers() {
				for place := range 64 {
					b := alone(place, n)
					wantBlock(t, way.name, b, q, way.plain(b, q), way.want(b, q))
				}
			}
		}
	}
}

// One alone goes to one place, and by that place's step, not by the i-th.
func TestOneAloneGoesByItsOwnStep(t *testing.T) {
	for i, place := range wantOrder {
		for _, n := range []int{1, -1, 3, 7, -8} {
			q := allSteps(1)
			q[place] = 100
			wantBlock(t, "Forward", alone(place, 100*n), q, Forward(alone(place, 100*n), q), alone(i, n))
			wantBlock(t, "Back", alone(i, n), q, Back(alone(i, n), q), alone(place, 100*n))
			wantBlock(t, "ForwardSec", alone(place, 100*n), q, forwardHidden(alone(place, 100*n), q), alone(i, n))
			wantBlock(t, "BackSec", alone(i, n), q, backHidden(alone(i, n), q), alone(place, 100*n))
		}
	}
}

// Halves go away from 0, above it and below; what is less than a half goes towards it. A step that is odd has no halves.
func TestHalves(t *testing.T) {
	for _, call := range []func(api.Block, []int) api.Block{Forward, forwardHidden} {
		for d := 1; d <= 255; d++ {
			for _, q := range []int{0, 1, 2, 50, 127} {
				from := q*d + (d+1)/2 // the first number that is nearer to q + 1, or as near
				if got := call(all(from), allSteps(d)); got != all(q+1) {
					t.Fatalf("%d by %d: %d, want %d", from, d, got[0], q+1)
				}
				if got := call(all(from-1), allSteps(d)); got != all(q) {
					t.Fatalf("%d by %d: %d, want %d", from-1, d, got[0], q)
				}
				if got := call(all(-from), allSteps(d)); got != all(-q-1) {
					t.Fatalf("%d by %d: %d, want %d", -from, d, got[0], -q-1)
				}
				if got := call(all(1-from), allSteps(d)); got != all(-q) {
					t.Fatalf("%d by %d: %d, want %d", 1-from, d, got[0], -q)
				}
			}
		}
	}
}

// Each number that is taken as it is, by the least steps, by the greatest, and by some between.
func TestEachNumberTaken(t *testing.T) {
	for _, d := range []int{1, 2, 16, 31, 32, 33, 99, 254, 255} {
		q := allSteps(d)
		for n := -32800; n <= 32800; n += 64 {
			var b api.Block
			for i := range b {
				b[i] = n + i
			}
			wantBlock(t, "Forward", b, q, Forward(b, q), forwardOf(b, q))
			wantBlock(t, "ForwardSec", b, q, forwardHidden(b, q), forwardOf(b, q))
		}
		for n := -2112; n <= 2112; n += 64 {
			var z api.Block
			for i := range z {
				z[i] = n + i
			}
			wantBlock(t, "Back", z, q, Back(z, q), backOf(z, q))
			wantBlock(t, "BackSec", z, q, backHidden(z, q), backOf(z, q))
		}
	}
}

// The ends are taken, and told, as they are, and what is beyond them as they.
func TestEnds(t *testing.T) {
	for _, c := range []struct {
		call     func(api.Block, []int) api.Block
		name     string
		n, step  int
		at0, at1 int
	}{
		{Forward, "Forward", 1022, 1, 1022, 1022}, {Forward, "Forward", 1023, 1, 1023, 1023}, {Forward, "Forward", 1024, 1, 1023, 1023},
		{Forward, "Forward", -1023, 1, -1023, -1023}, {Forward, "Forward", -1024, 1, -1024, -1023}, {Forward, "Forward", -1025, 1, -1024, -1023},
		{Forward, "Forward", 2046, 2, 1023, 1023}, {Forward, "Forward", 2047, 2, 1023, 1023}, {Forward, "Forward", -2047, 2, -1024, -1023}, {Forward, "Forward", -2046, 2, -1023, -1023},
		{Forward, "Forward", 32767, 32, 1023, 1023}, {Forward, "Forward", 32768, 32, 1023, 1023}, {Forward, "Forward", -32767, 32, -1024, -1023},
		{Forward, "Forward", 32766, 71, 461, 461}, {Forward, "Forward", 32767, 71, 462, 462}, {Forward, "Forward", 32767, 85, 385, 385}, {Forward, "Forward", 32768, 85, 385, 385},
		{Forward, "Forward", -32766, 71, -461, -461}, {Forward, "Forward", -32767, 71, -462, -462}, {Forward, "Forward", -32767, 85, -385, -385}, {Forward, "Forward", -32768, 85, -385, -385},
		{Forward, "Forward", 32768, 255, 128, 128}, {Forward, "Forward", 40000, 255, 128, 128}, {Forward, "Forward", -40000, 255, -128, -128},
		{Back, "Back", 2046, 3, 6138, 6138}, {Back, "Back", 2047, 3, 6141, 6141}, {Back, "Back", 2048, 3, 6141, 6141},
		{Back, "Back", -2047, 3, -6141, -6141}, {Back, "Back", -2048, 3, -6144, -6144}, {Back, "Back", -2049, 3, -6144, -6144},
		{Back, "Back", -1024, 1, -1024, -1024}, {Back, "Back", 1024, 1, 1024, 1024},
	} {
		calls := map[string]func(api.Block, []int) api.Block{c.name: c.call, c.name + "Sec": forwardHidden}
		if c.name == "Back" {
			calls["BackSec"] = backHidden
		}
		for name, call := range calls {
			want := first(all(c.at1), c.at0)
			wantBlock(t, name, all(c.n), allSteps(c.step), call(all(c.n), allSteps(c.step)), want)
		}
	}
}

// By some steps each end is to be seen: 32767 by 71 is 461.507.., of 32766 less than a half is left; of 32768 by 85, and by 255, more than a half is, of 32767 less.
func TestWhatIsTakenIsClipped(t *testing.T) {
	for d := 65; d <= 255; d++ {
		want := nearest(32767, d)
		for _, n := range []int{32767, 32768, 33100, 65535, 65536, 1 << 31, 1<<32 + 7, 1 << 62, 1<<62 + 1, 1<<63 - 1} {
			for _, call := range []func(api.Block, []int) api.Block{Forward, forwardHidden} {
				if got := call(all(n), allSteps(d)); got != all(want) {
					t.Fatalf("%d by %d: %d, want %d", n, d, got[0], want)
				}
				if got := call(all(-n), allSteps(d)); got != all(-want) {
					t.Fatalf("%d by %d: %d, want %d", -n, d, got[0], -want)
				}
			}
		}
		if got := Forward(all(-1<<63), allSteps(d)); got != all(-want) {
			t.Fatalf("-2^63 by %d: %d, want %d", d, got[0], -want)
		}
	}
}
