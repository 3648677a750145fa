package plane

import (
	"math"
	"testing"

	"cyanotype/api"
)

// Pixels whose parts are written out: red 76, 85, 255; green 150, 44, 21; blue 29, 255, 107; black 0, 128, 128; white 255, 128, 128.
func paint(colors string) []byte {
	var l []byte
	for _, c := range colors {
		switch c {
		case 'r':
			l = append(l, 255, 0, 0)
		case 'g':
			l = append(l, 0, 255, 0)
		case 'b':
			l = append(l, 0, 0, 255)
		case 'k':
			l = append(l, 0, 0, 0)
		case 'w':
			l = append(l, 255, 255, 255)
		}
	}
	return l
}

// wantRow holds a block's row against its first numbers and one that all others are.
func wantRow(t *testing.T, name string, b api.Block, row int, first []int, rest int) {
	t.Helper()
	for x := range 8 {
		want := rest
		if x < len(first) {
			want = first[x]
		}
		if got := b[8*row+x]; got != want {
			t.Errorf("%s: row %d, column %d is %d, want %d", name, row, x, got, want)
		}
	}
}

func TestSplitAgainstSums(t *testing.T) {
	for i, p := range publics() {
		m := picture(p, uint64(i))
		wantBlocks(t, "Split", p, Split(p, m), splitSums(p, m.Pix))
	}
}

// Three gray MCUs in a row, and two rows of them: each SAMPLE is told by where its pixel is.
func TestGrayInOrder(t *testing.T) {
	p := api.P{W: 24, H: 16, Mode: api.Gray}
	m := api.Image{W: 24, H: 16}
	for y := range 16 {
		for x := range 24 {
			m.Pix = append(m.Pix, byte(10*y+x))
		}
	}
	l := Split(p, m)
	if len(l) != 6 {
		t.Fatalf("%d MCUs", len(l))
	}
	for i, first := range []int{0, 8, 16, 80, 88, 96} {
		if len(l[i]) != 1 {
			t.Fatalf("MCU %d has %d blocks", i, len(l[i]))
		}
		for k, n := range l[i][0] {
			if want := first + k/8*10 + k%8; n != want {
				t.Errorf("MCU %d, SAMPLE %d is %d, want %d", i, k, n, want)
			}
		}
	}
}

func TestFullInOrder(t *testing.T) {
	l := Split(api.P{W: 3, H: 1, Mode: api.Full}, api.Image{W: 3, H: 1, RGB: true, Pix: paint("rgb")})
	if len(l) != 1 || len(l[0]) != 3 {
		t.Fatalf("%v", l)
	}
	for row := range 8 {
		wantRow(t, "luma", l[0][0], row, []int{76, 150}, 29)
		wantRow(t, "cb", l[0][1], row, []int{85, 44}, 255)
		wantRow(t, "cr", l[0][2], row, []int{255, 21}, 107)
	}
}

// Two across are one: (85+128+1)/2 is 107; (255+128+1)/2 is 192. Of three columns the fourth is as the third.
func TestWideInOrder(t *testing.T) {
	l := Split(api.P{W: 3, H: 2, Mode: api.Wide}, api.Image{W: 3, H: 2, RGB: true, Pix: paint("rkg" + "wbr")})
	if len(l) != 1 || len(l[0]) != 4 {
		t.Fatalf("%v", l)
	}
	wantRow(t, "luma", l[0][0], 0, []int{76, 0}, 150)
	wantRow(t, "luma beside", l[0][1], 0, nil, 150)
	wantRow(t, "cb", l[0][2], 0, []int{107}, 44)
	wantRow(t, "cr", l[0][3], 0, []int{192}, 21)
	for row := 1; row < 8; row++ {
		wantRow(t, "luma", l[0][0], row, []int{255, 29}, 76)
		wantRow(t, "luma beside", l[0][1], row, nil, 76)
		wantRow(t, "cb", l[0][2], row, []int{192}, 85)
		wantRow(t, "cr", l[0][3], row, []int{118}, 255)
	}
}

// Four are one: 85+44+255+128+2 is 514, by 4 128; 255+21+107+128+2 is 513, by 4 128. Of three columns and rows the fourth is as the third.
func TestHalfInOrder(t *testing.T) {
	l := Split(api.P{W: 3, H: 3, Mode: api.Half}, api.Image{W: 3, H: 3, RGB: true, Pix: paint("rgk" + "bkr" + "wrg")})
	if len(l) != 1 || len(l[0]) != 6 {
		t.Fatalf("%v", l)
	}
	wantRow(t, "luma", l[0][0], 0, []int{76, 150}, 0)
	wantRow(t, "luma", l[0][0], 1, []int{29, 0}, 76)
	wantRow(t, "luma beside", l[0][1], 0, nil, 0)
	wantRow(t, "luma beside", l[0][1], 1, nil, 76)
	wantRow(t, "cb", l[0][4], 0, []int{128}, (128+128+85+85+2)/4)
	wantRow(t, "cr", l[0][5], 0, []int{128}, (128+128+255+255+2)/4)
	for row := range 8 {
		wantRow(t, "luma below", l[0][2], row, []int{255, 76}, 150)
		wantRow(t, "luma beside and below", l[0][3], row, nil, 150)
	}
	for row := 2; row < 8; row++ {
		wantRow(t, "luma", l[0][0], row, []int{255, 76}, 150)
	}
	for row := 1; row < 8; row++ {
		wantRow(t, "cb", l[0][4], row, []int{(128 + 85 + 128 + 85 + 2) / 4}, 44)
		wantRow(t, "cr", l[0][5], row, []int{(128 + 255 + 128 + 255 + 2) / 4}, 21)
	}
}

// Each of luma's four blocks of an MCU lies where it should: each is of one gray of its own, and so is the MCU beside.
func TestHalfLumaBlocks(t *testing.T) {
	p := api.P{W: 32, H: 32, Mode: api.Half}
	m := api.Image{W: 32, H: 32, RGB: true}
	for y := range 32 {
		for x := range 32 {
			gray := byte(50*(y/8) + 10*(x/8))
			m.Pix = append(m.Pix, gray, gray, gray)
		}
	}
	for i, want := range [][4]int{{0, 10, 50, 60}, {20, 30, 70, 80}, {100, 110, 150, 160}, {120, 130, 170, 180}} {
		for j, gray := range want {
			for k, n := range Split(p, m)[i][j] {
				if n != gray {
					t.Fatalf("MCU %d, block %d, SAMPLE %d is %d, want %d", i, j, k, n, gray)
				}
			}
		}
	}
}

// The sum of four leaves each of 0, 1, 2 and 3: halves go up, less goes down.
func TestSamplesAreRounded(t *testing.T) {
	for _, c := range []struct {
		colors string
		cb, cr int
	}{
		{"rrrr", 85, 255},
		{"rrrg", (3*85 + 44 + 2) / 4, 197},
		{"rrgg", 65, 138},
		{"rggg", 54, 80},
		{"kkkb", 160, 123},
		{"rrrk", 96, 223},
		{"rkkk", 117, 160},
	} {
		l := Split(api.P{W: 2, H: 2, Mode: api.Half}, api.Image{W: 2, H: 2, RGB: true, Pix: paint(c.colors)})
		if l[0][4][0] != c.cb || l[0][5][0] != c.cr {
			t.Errorf("%s: %d, %d, want %d, %d", c.colors, l[0][4][0], l[0][5][0], c.cb, c.cr)
		}
	}
}

// The greatest there are: as many pixels as may be, in squares, rows and columns.
func TestSplitOfMostPixels(t *testing.T) {
	for _, mode := range modes() {
		for _, s := range [][2]int{{1024, 1024}, {65535, 16}, {16, 65535}, {65535, 1}, {1, 65535}, {16384, 64}} {
			p := api.P{W: s[0], H: s[1], Mode: mode}
			m := picture(p, 5)
			l := Split(p, m)
			if len(l) != len(shape(p)) {
				t.Fatalf("%v: %d MCUs", p, len(l))
			}
			for part := range channels(p) {
				_, _, wide, high := partOf(mode, part)
				mcu, block, k := whereIs(p, part, p.W-1, p.H-1)
				sum := 0
				for i := range wide * high {
					sum += pixelParts(p, m.Pix, (p.W-1)/wide*wide+i%wide, (p.H-1)/high*high+i/wide)[part]
				}
				if got, want := l[mcu][block][k], (sum+wide*high/2)/(wide*high); got != want {
					t.Errorf("%v: the last SAMPLE of part %d is %d, want %d", p, part, got, want)
				}
			}
		}
	}
}

// wantNone holds that an image that does not FIT is not split.
func wantNone(t *testing.T, why string, p api.P, m api.Image) {
	t.Helper()
	if l := Split(p, m); len(l) != 0 {
		t.Errorf("%s: %d MCUs of %v", why, len(l), p)
	}
}

func TestOtherSidesDoNotFit(t *testing.T) {
	for _, mode := range modes() {
		p := api.P{W: 4, H: 6, Mode: mode}
		for _, s := range [][2]int{{3, 6}, {5, 6}, {4, 5}, {4, 7}, {6, 4}, {2, 12}, {12, 2}, {24, 1}, {1, 24}, {0, 0}, {0, 6}, {4, 0}, {-4, 6}, {4, -6}, {-4, -6}, {4 + 1<<32, 6}, {math.MaxInt, math.MaxInt}, {math.MinInt, math.MinInt}} {
			m := picture(p, 1)
			m.W, m.H = s[0], s[1]
			wantNone(t, "sides", p, m)
			wantNone(t, "sides", api.P{W: s[0], H: s[1], Mode: mode}, picture(p, 1))
		}
	}
}

func TestNoGridDoesNotFit(t *testing.T) {
	for _, mode := range noModes() {
		for _, rgb := range []bool{false, true} {
			for _, n := range []int{0, 24, 72} {
				wantNone(t, "mode", api.P{W: 4, H: 6, Mode: mode}, api.Image{W: 4, H: 6, RGB: rgb, Pix: draw(n, 1)})
			}
		}
	}
	for _, mode := range modes() {
		rgb := mode != api.Gray
		for _, n := range noSides() {
			wantNone(t, "W", api.P{W: n, H: 1, Mode: mode}, api.Image{W: n, H: 1, RGB: rgb})
			wantNone(t, "H", api.P{W: 1, H: n, Mode: mode}, api.Image{W: 1, H: n, RGB: rgb})
			wantNone(t, "W and H", api.P{W: n, H: n, Mode: mode}, api.Image{W: n, H: n, RGB: rgb})
		}
		// As many bytes as the product tells, though there is no Grid.
		for _, s := range [][2]int{{65536, 1}, {1, 65536}, {-4, -6}, {-1, -1}} {
			p := api.P{W: s[0], H: s[1], Mode: mode}
			wantNone(t, "product", p, picture(p, 1))
		}
	}
}

// 17 times 61681 is one more than may be.
func TestTooManyPixelsDoNotFit(t *testing.T) {
	for _, mode := range modes() {
		for _, s := range [][2]int{{17, 61681}, {61681, 17}, {1024, 1025}, {1025, 1024}, {65535, 17}, {17, 65535}, {16385, 64}} {
			p := api.P{W: s[0], H: s[1], Mode: mode}
			wantNone(t, "pixels", p, picture(p, 1))
		}
		wantNone(t, "pixels", api.P{W: 65535, H: 65535, Mode: mode}, api.Image{W: 65535, H: 65535, RGB: mode != api.Gray})
	}
}

func TestColorsThatDoNotFit(t *testing.T) {
	for _, mode := range modes() {
		p := api.P{W: 4, H: 6, Mode: mode}
		for _, n := range []int{24, 72} {
			wantNone(t, "colour", p, api.Image{W: 4, H: 6, RGB: mode == api.Gray, Pix: draw(n, 1)})
		}
	}
}

func TestTooFewAndTooManyBytes(t *testing.T) {
	for _, p := range publics() {
		all := p.W * p.H * channels(p)
		for _, n := range []int{0, 1, all / 3, all - 3, all - 1, all + 1, all + 3, 2 * all, 3 * all} {
			if n >= 0 && n != all {
				m := picture(p, 1)
				m.Pix = draw(n, 1)
				wantNone(t, "bytes", p, m)
			}
		}
	}
}

// What lies behind a list's length is not read: it neither makes up for what is missing, nor is too much.
func TestBytesBehindTheLength(t *testing.T) {
	for _, p := range publics() {
		m := picture(p, 3)
		want := splitSums(p, m.Pix)
		more := append(append([]byte{}, m.Pix...), draw(400, 4)...)
		m.Pix = more[:len(m.Pix)]
		wantBlocks(t, "Split", p, Split(p, m), want)
		m.Pix = more[:len(m.Pix)-1]
		wantNone(t, "bytes behind", p, m)
	}
}

func TestSplitHangsOnNothingElse(t *testing.T) {
	for _, mode := range modes() {
		p := api.P{W: 17, H: 9, Mode: mode}
		m := picture(p, 3)
		want := Split(p, m)
		for _, n := range []int{-1, 1, 100, 65536, math.MaxInt, math.MinInt} {
			p.Quality, p.Interval, p.Class = n, n, n
			wantBlocks(t, "Split", p, Split(p, m), want)
			wantImage(t, "Join", p, Join(p, want), joinSums(p, want))
		}
	}
}
