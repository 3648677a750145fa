package plane

import (
	"bytes"
	"math"
	"testing"

	"cyanotype/api"
	"cyanotype/color"
)

func TestJoinOfSplitGray(t *testing.T) {
	for i, p := range publics() {
		if p.Mode == api.Gray {
			m := picture(p, uint64(i))
			wantImage(t, "Join of Split", p, Join(p, Split(p, m)), m)
		}
	}
}

func TestJoinOfSplitFull(t *testing.T) {
	for i, p := range publics() {
		if p.Mode != api.Full {
			continue
		}
		m := picture(p, uint64(i))
		want := picture(p, uint64(i))
		for j := 0; j < len(want.Pix); j += 3 {
			r, g, b := color.Back(color.Luma(int(m.Pix[j]), int(m.Pix[j+1]), int(m.Pix[j+2])))
			want.Pix[j], want.Pix[j+1], want.Pix[j+2] = byte(r), byte(g), byte(b)
		}
		wantImage(t, "Join of Split", p, Join(p, Split(p, m)), want)
	}
}

func TestJoinOfSplit(t *testing.T) {
	for i, p := range publics() {
		l := Split(p, picture(p, uint64(i)))
		wantImage(t, "Join of Split", p, Join(p, l), joinSums(p, l))
	}
}

func TestJoinAgainstSums(t *testing.T) {
	for i, p := range publics() {
		l := blocks(p, uint64(i))
		wantImage(t, "Join", p, Join(p, l), joinSums(p, l))
	}
}

// Each pixel of one colour comes back as it was, as near as Back of Luma is, in each mode.
func TestJoinOfOneColor(t *testing.T) {
	for _, p := range publics() {
		if p.Mode == api.Gray {
			continue
		}
		m := picture(p, 1)
		for i := 0; i < len(m.Pix); i += 3 {
			m.Pix[i], m.Pix[i+1], m.Pix[i+2] = 255, 0, 0
		}
		got := Join(p, Split(p, m))
		if want := bytes.Repeat([]byte{254, 0, 0}, p.W*p.H); !bytes.Equal(got.Pix, want) {
			t.Errorf("%v: %v", p, got.Pix)
		}
	}
}

func TestJoinClips(t *testing.T) {
	for _, c := range []struct{ n, want int }{
		{math.MinInt, 0}, {math.MinInt + 1, 0}, {-1 << 32, 0}, {-1<<32 + 9, 0}, {-256, 0}, {-255, 0}, {-1, 0}, {0, 0}, {1, 1},
		{254, 254}, {255, 255}, {256, 255}, {257, 255}, {300, 255}, {511, 255}, {512, 255}, {1 << 32, 255}, {1<<32 + 9, 255}, {math.MaxInt, 255},
	} {
		var b api.Block
		for k := range b {
			b[k] = c.n
		}
		gray := Join(api.P{W: 8, H: 8, Mode: api.Gray}, [][]api.Block{{b}})
		if !bytes.Equal(gray.Pix, bytes.Repeat([]byte{byte(c.want)}, 64)) {
			t.Errorf("gray of %d: %v", c.n, gray.Pix)
		}
		middle := api.Block{}
		for k := range middle {
			middle[k] = 128
		}
		for part := range 3 {
			mcu := []api.Block{middle, middle, middle}
			mcu[part] = b
			parts := [3]int{128, 128, 128}
			parts[part] = c.want
			red, green, blue := color.Back(parts[0], parts[1], parts[2])
			full := Join(api.P{W: 8, H: 8, Mode: api.Full}, [][]api.Block{mcu})
			if !bytes.Equal(full.Pix, bytes.Repeat([]byte{byte(red), byte(green), byte(blue)}, 64)) {
				t.Errorf("part %d of %d: %v", part, c.n, full.Pix[:3])
			}
		}
	}
}

// A SAMPLE of four pixels is on each of them, and on no other.
func TestSamplesOfSeveralPixels(t *testing.T) {
	p := api.P{W: 4, H: 4, Mode: api.Half}
	l := shape(p)
	for j := range l[0] {
		for k := range l[0][j] {
			l[0][j][k] = 128
		}
	}
	l[0][5][9] = 255 // the colour of the second SAMPLE in the second row
	got := Join(p, l)
	for y := range 4 {
		for x := range 4 {
			want := [3]byte{128, 128, 128}
			if x >= 2 && y >= 2 {
				want = [3]byte{255, 37, 128}
			}
			if at := 3 * (4*y + x); [3]byte(got.Pix[at:at+3]) != want {
				t.Errorf("pixel %d, %d is %v, want %v", x, y, got.Pix[at:at+3], want)
			}
		}
	}
}

// What was beyond the ends is left out, whatever it is.
func TestBeyondTheEndsIsLeftOut(t *testing.T) {
	for i, p := range publics() {
		l := blocks(p, uint64(i))
		want := joinSums(p, l)
		used := map[[3]int]bool{}
		for part := range channels(p) {
			for y := range p.H {
				for x := range p.W {
					mcu, block, k := whereIs(p, part, x, y)
					used[[3]int{mcu, block, k}] = true
				}
			}
		}
		for a := range l {
			for b := range l[a] {
				for k := range l[a][b] {
					if !used[[3]int{a, b, k}] {
						l[a][b][k] ^= 0x55
					}
				}
			}
		}
		wantImage(t, "Join", p, Join(p, l), want)
	}
}

func TestJoinOfMostPixels(t *testing.T) {
	for _, mode := range modes() {
		for _, s := range [][2]int{{1024, 1024}, {65535, 16}, {16, 65535}, {1, 65535}, {65535, 1}} {
			p := api.P{W: s[0], H: s[1], Mode: mode}
			l := shape(p)
			for part := range channels(p) {
				mcu, block, k := whereIs(p, part, p.W-1, p.H-1)
				l[mcu][block][k] = 128
			}
			got := Join(p, l)
			at := p.W*p.H*channels(p) - 1
			if got.W != p.W || got.H != p.H || got.RGB != (mode != api.Gray) || len(got.Pix) != at+1 || got.Pix[at] != 128 {
				t.Errorf("%v: %d by %d, %d bytes", p, got.W, got.H, len(got.Pix))
			}
		}
	}
}

// wantNoImage holds that neither way joins.
func wantNoImage(t *testing.T, why string, p api.P, l [][]api.Block) {
	t.Helper()
	if m := Join(p, l); !isNothing(m) {
		t.Errorf("%s: %d by %d of %v", why, m.W, m.H, p)
	}
	if pix := JoinSec(p, hiddenBlocks(l)); len(pix) != 0 {
		t.Errorf("%s: %d secrets of %v", why, len(pix), p)
	}
}

func TestTooFewAndTooManyMCUs(t *testing.T) {
	for _, p := range publics() {
		l := shape(p)
		wantNoImage(t, "none", p, nil)
		wantNoImage(t, "none", p, [][]api.Block{})
		wantNoImage(t, "one fewer", p, l[:len(l)-1])
		wantNoImage(t, "one fewer", p, l[1:])
		wantNoImage(t, "one more", p, append(shape(p), l[0]))
		wantNoImage(t, "one more, of nothing", p, append(shape(p), nil))
		wantNoImage(t, "twice as many", p, append(shape(p), l...))
	}
}

func TestTooFewAndTooManyBlocks(t *testing.T) {
	for _, p := range publics() {
		many := len(shape(p)[0])
		last := len(shape(p)) - 1
		for _, i := range []int{0, last / 2, last} {
			for _, n := range []int{0, 1, many - 1, many + 1, 2 * many} {
				if n == many {
					continue
				}
				l := shape(p)
				l[i] = make([]api.Block, n)
				wantNoImage(t, "blocks", p, l)
			}
		}
		if last > 0 { // as many in all, but not in each
			l := shape(p)
			l[0], l[last] = l[0][:many-1], append(l[last], api.Block{})
			wantNoImage(t, "blocks", p, l)
		}
	}
}

// Blocks of another mode, or size.
func TestBlocksOfAnother(t *testing.T) {
	for _, p := range publics() {
		for _, other := range publics() {
			l := shape(other)
			if len(l) != len(shape(p)) || len(l[0]) != len(shape(p)[0]) {
				wantNoImage(t, "another", p, l)
			}
		}
	}
}

func TestJoinOfNoGrid(t *testing.T) {
	lists := [][][]api.Block{nil, {}, {nil}, {{}}, {{{}}}, {{{}, {}, {}}}, shape(api.P{W: 8, H: 8, Mode: api.Half})}
	for _, l := range lists {
		for _, mode := range noModes() {
			wantNoImage(t, "mode", api.P{W: 8, H: 8, Mode: mode}, l)
		}
		for _, mode := range modes() {
			for _, n := range noSides() {
				wantNoImage(t, "W", api.P{W: n, H: 8, Mode: mode}, l)
				wantNoImage(t, "H", api.P{W: 8, H: n, Mode: mode}, l)
				wantNoImage(t, "W and H", api.P{W: n, H: n, Mode: mode}, l)
			}
		}
	}
}

// Split tells nothing of more than 2^20 pixels, so that Join tells none of them, though there are as many blocks.
func TestJoinOfTooManyPixels(t *testing.T) {
	for _, s := range [][2]int{{1024, 1025}, {1025, 1024}, {17, 61681}} {
		p := api.P{W: s[0], H: s[1], Mode: api.Gray}
		wantNoImage(t, "pixels", p, shape(p))
	}
	p := api.P{W: 65535, H: 17, Mode: api.Half}
	wantNoImage(t, "pixels", p, shape(p))
	// The same MCUs are enough for the widest and highest image that is not too large.
	p.W, p.H = 61680, 17
	if m := Join(p, shape(p)); len(m.Pix) != 3*61680*17 {
		t.Errorf("%d bytes", len(m.Pix))
	}
}
