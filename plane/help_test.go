package plane

import (
	"math"
	"reflect"
	"testing"

	"cyanotype/api"
	"cyanotype/color"
	"cyanotype/sec"
)

// sizes are widths and heights that are, and are not, multiples of an MCU's.
func sizes() [][2]int {
	return [][2]int{
		{1, 1}, {2, 1}, {1, 2}, {2, 2}, {3, 1}, {1, 3}, {3, 3}, {4, 5}, {7, 7}, {7, 8}, {8, 7}, {8, 8}, {9, 8}, {8, 9}, {9, 9},
		{15, 15}, {16, 8}, {8, 16}, {16, 16}, {17, 8}, {16, 9}, {17, 9}, {17, 17}, {23, 25}, {24, 24}, {31, 33}, {32, 32}, {33, 31}, {48, 16}, {50, 3}, {3, 50}, {49, 47},
	}
}

// publics are a P of each mode and size.
func publics() []api.P {
	var l []api.P
	for _, mode := range modes() {
		for _, s := range sizes() {
			l = append(l, api.P{W: s[0], H: s[1], Mode: mode})
		}
	}
	return l
}

// channels are how many bytes a pixel has.
func channels(p api.P) int {
	if p.Mode == api.Gray {
		return 1
	}
	return 3
}

// draw is bytes that follow no pattern of a block's.
func draw(n int, seed uint64) []byte {
	x := seed*2654435769 + 88172645463325252
	l := make([]byte, n)
	for i := range l {
		x ^= x << 13
		x ^= x >> 7
		x ^= x << 17
		l[i] = byte(x >> 24)
	}
	return l
}

// picture is an image that FITS p.
func picture(p api.P, seed uint64) api.Image {
	return api.Image{W: p.W, H: p.H, RGB: p.Mode != api.Gray, Pix: draw(p.W*p.H*channels(p), seed)}
}

// pixelParts are the parts of a pixel; beyond the ends, those of the last one in its row, the last row's.
func pixelParts(p api.P, pix []byte, x, y int) [3]int {
	if x >= p.W {
		x = p.W - 1
	}
	if y >= p.H {
		y = p.H - 1
	}
	i := y*p.W + x
	if p.Mode == api.Gray {
		return [3]int{int(pix[i])}
	}
	a, b, c := color.Luma(int(pix[3*i]), int(pix[3*i+1]), int(pix[3*i+2]))
	return [3]int{a, b, c}
}

// partOf is how many blocks across and down an MCU has of a part, and of how many pixels across and down its SAMPLE is: all written out.
func partOf(mode, part int) (across, down, wide, high int) {
	switch {
	case mode == api.Wide && part == 0:
		return 2, 1, 1, 1
	case mode == api.Wide:
		return 1, 1, 2, 1
	case mode == api.Half && part == 0:
		return 2, 2, 1, 1
	case mode == api.Half:
		return 1, 1, 2, 2
	}
	return 1, 1, 1, 1
}

// whereIs is where the SAMPLE is that a pixel's part went into: reckoned from the pixel on, where the package reckons from the block on.
func whereIs(p api.P, part, x, y int) (mcu, block, k int) {
	across, down, wide, high := partOf(p.Mode, part)
	sx, sy := x/wide, y/high
	inRow := (p.W + 8*across*wide - 1) / (8 * across * wide)
	mcu = sy/(8*down)*inRow + sx/(8*across)
	block = sy/8%down*across + sx/8%across
	for before := range part {
		a, d, _, _ := partOf(p.Mode, before)
		block += a * d
	}
	return mcu, block, sy%8*8 + sx%8
}

// shape is as many MCUs and blocks as there are, of noughts.
func shape(p api.P) [][]api.Block {
	s := side(p.Mode)
	mcus := ((p.W + s[0] - 1) / s[0]) * ((p.H + s[1] - 1) / s[1])
	many := map[int]int{api.Gray: 1, api.Full: 3, api.Wide: 4, api.Half: 6}[p.Mode]
	l := make([][]api.Block, mcus)
	for i := range l {
		l[i] = make([]api.Block, many)
	}
	return l
}

// splitSums are the chapter's sums: each pixel, beyond the ends too, is added to its SAMPLE, and then all are divided.
func splitSums(p api.P, pix []byte) [][]api.Block {
	l := shape(p)
	s := side(p.Mode)
	for part := range channels(p) {
		_, _, wide, high := partOf(p.Mode, part)
		many := wide * high
		for y := range (p.H + s[1] - 1) / s[1] * s[1] {
			for x := range (p.W + s[0] - 1) / s[0] * s[0] {
				mcu, block, k := whereIs(p, part, x, y)
				at := &l[mcu][block][k]
				*at += pixelParts(p, pix, x, y)[part]
				if x%wide == wide-1 && y%high == high-1 && many > 1 {
					*at = (*at + many/2) / many
				}
			}
		}
	}
	return l
}

// joinSums are the chapter's way back: each pixel has of each part the SAMPLE that it went into, clipped.
func joinSums(p api.P, l [][]api.Block) api.Image {
	m := api.Image{W: p.W, H: p.H, RGB: p.Mode != api.Gray}
	for y := range p.H {
		for x := range p.W {
			var parts [3]int
			for part := range channels(p) {
				mcu, block, k := whereIs(p, part, x, y)
				parts[part] = max(0, min(l[mcu][block][k], 255))
			}
			if p.Mode == api.Gray {
				m.Pix = append(m.Pix, byte(parts[0]))
				continue
			}
			r, g, b := color.Back(parts[0], parts[1], parts[2])
			m.Pix = append(m.Pix, byte(r), byte(g), byte(b))
		}
	}
	return m
}

// wild is a number, below 0 and above 255 too, at both ends of an int now and then.
func wild(a, b byte) int {
	switch ends := []int{math.MinInt, math.MinInt + 1, -256, -1, 0, 255, 256, 1<<32 + 100, -1<<32 + 100, math.MaxInt - 1, math.MaxInt}; {
	case b < 50:
		return ends[int(a)%len(ends)]
	case b < 120:
		return (int(a) - 128) * 5
	}
	return int(a)
}

// blocks are as many as Split tells, with numbers that it may not tell.
func blocks(p api.P, seed uint64) [][]api.Block {
	l := shape(p)
	drawn := draw(len(l)*len(l[0])*128, seed)
	for i, mcu := range l {
		for j := range mcu {
			for k := range 64 {
				at := ((i*len(mcu)+j)*64 + k) * 2
				mcu[j][k] = wild(drawn[at], drawn[at+1])
			}
		}
	}
	return l
}

// hidden are secrets that hold bytes; hiddenBlocks such that hold blocks.
func hidden(pix []byte) []sec.Sec {
	l := make([]sec.Sec, len(pix))
	for i, b := range pix {
		l[i] = sec.Of(int(b))
	}
	return l
}

func hiddenBlocks(l [][]api.Block) [][][64]sec.Sec {
	out := make([][][64]sec.Sec, len(l))
	for i, mcu := range l {
		out[i] = make([][64]sec.Sec, len(mcu))
		for j, b := range mcu {
			for k, n := range b {
				out[i][j][k] = sec.Of(n)
			}
		}
	}
	return out
}

// opened and openedBlocks are what secrets hold, with nobody watching.
func opened(l []sec.Sec) []int {
	out := make([]int, len(l))
	for i, s := range l {
		out[i] = s.Open(nil)
	}
	return out
}

func openedBlocks(l [][][64]sec.Sec) [][]api.Block {
	out := make([][]api.Block, len(l))
	for i, mcu := range l {
		out[i] = make([]api.Block, len(mcu))
		for j, b := range mcu {
			for k, s := range b {
				out[i][j][k] = s.Open(nil)
			}
		}
	}
	return out
}

// numbers are bytes as ints.
func numbers(pix []byte) []int {
	out := make([]int, len(pix))
	for i, b := range pix {
		out[i] = int(b)
	}
	return out
}

// wantBlocks holds blocks against others, one by one, so that the first wrong one is told.
func wantBlocks(t *testing.T, call string, p api.P, got, want [][]api.Block) {
	t.Helper()
	if len(got) != len(want) {
		t.Fatalf("%s of %v: %d MCUs, want %d", call, p, len(got), len(want))
	}
	for i := range want {
		if len(got[i]) != len(want[i]) {
			t.Fatalf("%s of %v: MCU %d has %d blocks, want %d", call, p, i, len(got[i]), len(want[i]))
		}
		for j := range want[i] {
			for k, n := range want[i][j] {
				if got[i][j][k] != n {
					t.Fatalf("%s of %v: MCU %d, block %d, SAMPLE %d is %d, want %d", call, p, i, j, k, got[i][j][k], n)
				}
			}
		}
	}
}

// wantImage holds an image against another.
func wantImage(t *testing.T, call string, p api.P, got, want api.Image) {
	t.Helper()
	if got.W != want.W || got.H != want.H || got.RGB != want.RGB || len(got.Pix) != len(want.Pix) {
		t.Fatalf("%s of %v: %d by %d, %v, %d bytes", call, p, got.W, got.H, got.RGB, len(got.Pix))
	}
	for i, b := range want.Pix {
		if got.Pix[i] != b {
			t.Fatalf("%s of %v: byte %d is %d, want %d", call, p, i, got.Pix[i], b)
		}
	}
}

// isNothing tells whether an image is one of nothing.
func isNothing(m api.Image) bool {
	return len(m.Pix) == 0 && reflect.DeepEqual(api.Image{W: m.W, H: m.H, RGB: m.RGB}, api.Image{})
}
