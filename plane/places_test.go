package plane

import (
	"slices"
	"testing"

	"cyanotype/api"
)

// Red 76, 85, 255 and cyan 179, 171, 0 differ by more than 4 in each part: to turn one into the other changes each SAMPLE that a pixel goes into.
func turnPixel(p api.P, m api.Image, x, y int, cyan bool) {
	at := (y*p.W + x) * channels(p)
	low, high := byte(0), byte(255)
	if cyan {
		low, high = high, low
	}
	m.Pix[at] = high
	if p.Mode != api.Gray {
		m.Pix[at+1], m.Pix[at+2] = low, low
	}
}

// changed are the SAMPLES that differ, in order.
func changed(a, b [][]api.Block) [][3]int {
	var l [][3]int
	for i := range a {
		for j := range a[i] {
			for k := range a[i][j] {
				if a[i][j][k] != b[i][j][k] {
					l = append(l, [3]int{i, j, k})
				}
			}
		}
	}
	return l
}

// went are the SAMPLES that one pixel goes into, of an image that is otherwise as drawn.
func went(p api.P, seed uint64, x, y int) [][3]int {
	m := picture(p, seed)
	turnPixel(p, m, x, y, false)
	red := Split(p, m)
	turnPixel(p, m, x, y, true)
	return changed(red, Split(p, m))
}

// Where each pixel goes hangs on no pixel: it is the same in any image, and in one of one gray.
func TestWhereAPixelGoes(t *testing.T) {
	for _, mode := range modes() {
		p := api.P{W: 18, H: 17, Mode: mode}
		for y := range p.H {
			for x := range p.W {
				first := went(p, 1, x, y)
				for part := range channels(p) {
					mcu, block, k := whereIs(p, part, x, y)
					if !slices.Contains(first, [3]int{mcu, block, k}) {
						t.Fatalf("mode %d: part %d of pixel %d, %d is not where it should be", mode, part, x, y)
					}
				}
				if x+1 < p.W && y+1 < p.H && len(first) != channels(p) {
					t.Fatalf("mode %d: pixel %d, %d goes into %d SAMPLES", mode, x, y, len(first))
				}
				for _, seed := range []uint64{2, 3} {
					if !slices.Equal(went(p, seed, x, y), first) {
						t.Fatalf("mode %d: pixel %d, %d goes elsewhere in another image", mode, x, y)
					}
				}
			}
		}
	}
}

// The places of all blocks are told of public numbers alone, MCU by MCU, part by part, each block once.
func TestPlacesInOrder(t *testing.T) {
	for _, p := range publics() {
		mcu, block, part := 0, 0, 0
		many := len(shape(p)[0])
		for s := range spots(p) {
			if s.mcu != mcu || s.block != block || s.part < part {
				t.Fatalf("%v: MCU %d, block %d, part %d comes where %d, %d is due", p, s.mcu, s.block, s.part, mcu, block)
			}
			part = s.part
			if block++; block == many {
				mcu, block, part = mcu+1, 0, 0
			}
		}
		if mcu != len(shape(p)) || block != 0 {
			t.Fatalf("%v: it ends at MCU %d, block %d", p, mcu, block)
		}
	}
}

// Who ranges over places may stop at any of them.
func TestPlacesMayBeLeft(t *testing.T) {
	p := api.P{W: 33, H: 33, Mode: api.Half}
	for stop := range 54 {
		n := 0
		for s := range spots(p) {
			for range s.pixels(3) {
				break
			}
			if n == stop {
				break
			}
			n++
		}
		if n != stop {
			t.Fatalf("it stopped at %d, not at %d", n, stop)
		}
	}
}

func TestNoPlacesWithoutAGrid(t *testing.T) {
	for _, p := range []api.P{{}, {W: 8, H: 8}, {W: 8, H: 8, Mode: 5}, {W: 0, H: 8, Mode: 1}, {W: 8, H: 65536, Mode: 4}} {
		for s := range spots(p) {
			t.Fatalf("%v has a place: %v", p, s)
		}
	}
}
