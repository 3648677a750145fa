package dct

import (
	"math"
	"strconv"
	"strings"
	"testing"

	"cyanotype/api"
	"cyanotype/sec"
)

// written is the chapter's table as it stands there.
const written = `
370728 370728 370728 370728 370728 370728 370728 370728
514214 435930 291279 102284 -102284 -291279 -435930 -514214
484379 200636 -200636 -484379 -484379 -200636 200636 484379
435930 -102284 -514214 -291279 291279 514214 102284 -435930
370728 -370728 -370728 370728 370728 -370728 -370728 370728
291279 -514214 102284 435930 -435930 -102284 514214 -291279
200636 -484379 484379 -200636 -200636 484379 -484379 200636
102284 -291279 435930 -514214 514214 -435930 291279 -102284
`

// parted is the table's numbers, as they are read.
var parted = func() []int {
	var l []int
	for _, word := range strings.Fields(written) {
		n, err := strconv.Atoi(word)
		if err != nil {
			panic(err)
		}
		l = append(l, n)
	}
	return l
}()

// factorOf is a factor of the chapter's table: the package's own is asked by none of the tests' sums.
func factorOf(u, x int) int {
	return parted[8*u+x]
}

// nearest is a sum by 2^40, in other words than num.Round: a quotient, one further from 0 where half or more is left.
func nearest(sum int) int {
	q, left := sum/(1<<40), sum%(1<<40)
	switch {
	case left >= 1<<39:
		q++
	case left <= -(1 << 39):
		q--
	}
	return q
}

// clipped is a block with each of its numbers between two ends.
func clipped(b api.Block, low, high int) api.Block {
	for i, n := range b {
		b[i] = max(low, min(n, high))
	}
	return b
}

// held and heldBack are blocks as Forward and Back take them.
func held(b api.Block) api.Block {
	return clipped(b, -4096, 4096)
}

func heldBack(b api.Block) api.Block {
	return clipped(b, -32768, 32767)
}

// forwardSums are the chapter's sums of numbers that are clipped already: each number adds its own to all frequencies, where the package sums up for each frequency.
func forwardSums(b api.Block) api.Block {
	var sums api.Block
	for y := range 8 {
		for x := range 8 {
			for v := range 8 {
				for u := range 8 {
					sums[8*v+u] += b[8*y+x] * factorOf(u, x) * factorOf(v, y)
				}
			}
		}
	}
	return sums
}

// backSums are those of the way back.
func backSums(b api.Block) api.Block {
	var sums api.Block
	for v := range 8 {
		for u := range 8 {
			for y := range 8 {
				for x := range 8 {
					sums[8*y+x] += b[8*v+u] * factorOf(u, x) * factorOf(v, y)
				}
			}
		}
	}
	return sums
}

// round is sums rounded.
func round(sums api.Block) api.Block {
	for i, n := range sums {
		sums[i] = nearest(n)
	}
	return sums
}

// forwardOf and backOf are what the chapter asks of Forward, and of Back.
func forwardOf(b api.Block) api.Block {
	return round(forwardSums(held(b)))
}

func backOf(b api.Block) api.Block {
	return round(backSums(heldBack(b)))
}

// forwardHidden and backHidden open what comes out: not on the way, but behind it.
func forwardHidden(b api.Block) api.Block {
	return opened(ForwardSec(hidden(b)))
}

func backHidden(b api.Block) api.Block {
	return opened(BackSec(hidden(b)))
}

func hidden(b api.Block) [64]sec.Sec {
	var out [64]sec.Sec
	for i, n := range b {
		out[i] = sec.Of(n)
	}
	return out
}

func opened(b [64]sec.Sec) api.Block {
	var out api.Block
	for i, s := range b {
		out[i] = s.Open(nil)
	}
	return out
}

// asked is a way as the tests ask it: its plain and its secret call, what the chapter asks of both, its sums, and the ends of what it takes.
type asked struct {
	name          string
	plain, secret func(api.Block) api.Block
	want, sums    func(api.Block) api.Block
	low, high     int
}

func calls() []asked {
	return []asked{
		{"Forward", Forward, forwardHidden, forwardOf, forwardSums, -4096, 4096},
		{"Back", Back, backHidden, backOf, backSums, -32768, 32767},
	}
}

// all is 64 times one number.
func all(n int) api.Block {
	var b api.Block
	for i := range b {
		b[i] = n
	}
	return b
}

// alone is one number at one place, and noughts.
func alone(place, n int) api.Block {
	var b api.Block
	b[place] = n
	return b
}

// inside are numbers within both clips, below 0 and above.
func inside() []int {
	return []int{0, 1, -1, 2, -2, 3, 4, -4, 7, 8, -8, 100, -100, 127, 128, -128, -129, 200, 255, 256, -255, -256, 1000, -1001, 1024, -1024, 2047, -2048, 4000, -4001}
}

// ends are those of both clips, what is beside them, and both ends of what an int holds; numbers, too, that have the lower bits of others, and whose products go round.
func ends() []int {
	return []int{
		-4096, -4095, -4097, 4096, 4095, 4097, 4098, -4098,
		-32768, -32767, -32769, 32767, 32766, 32768, 32769, -32770,
		65535, 65536, 65537, -65536, 1<<31 - 1, 1 << 31, -1 << 31, -1<<31 - 1, 1 << 32, 1<<32 + 100, -1<<32 + 100, 1 << 40, -1 << 40, 1 << 44, -1 << 45, 1 << 62, -1 << 62,
		math.MaxInt, math.MaxInt - 1, math.MinInt, math.MinInt + 1,
	}
}

// draw is numbers of 64 bits that follow no pattern of a block's.
func draw(seed int) [64]uint64 {
	x := uint64(seed)*2654435769 + 88172645463325252
	var l [64]uint64
	for i := range l {
		x ^= x << 13
		x ^= x >> 7
		x ^= x << 17
		l[i] = x
	}
	return l
}

// drawn is a block of numbers from low to high.
func drawn(seed, low, high int) api.Block {
	var b api.Block
	for i, x := range draw(seed) {
		b[i] = low + int(x>>8%uint64(high-low+1))
	}
	return b
}

// wild is a block of numbers of which some are within the clips, and some are ends, or beyond.
func wild(seed int) api.Block {
	b := drawn(seed, -4096, 4096)
	l := ends()
	for i, x := range draw(seed + 1000) {
		if x%3 == 0 {
			b[i] = l[x>>8%uint64(len(l))]
		}
	}
	return b
}

// signed is numbers of just two amounts, laid so that nothing takes anything away in the sum that is told at one place.
func signed(way asked, told, low, high int) api.Block {
	var b api.Block
	for i := range b {
		b[i] = high
		if way.sums(alone(i, 1))[told] < 0 {
			b[i] = low
		}
	}
	return b
}

// blocks are of all kinds that the tests hold a call against its sums by.
func blocks(way asked) []api.Block {
	l := []api.Block{{}}
	for _, n := range append(inside(), ends()...) {
		l = append(l, all(n))
	}
	for told := range 64 {
		l = append(l, signed(way, told, way.low, way.high), signed(way, told, way.high, way.low))
		l = append(l, signed(way, told, math.MinInt, math.MaxInt), signed(way, told, math.MaxInt, math.MinInt))
	}
	for seed := range 60 {
		l = append(l, drawn(seed, 0, 255), drawn(seed, -128, 127), drawn(seed, -4096, -1), drawn(seed, -4096, 4096))
		l = append(l, drawn(seed, -4200, 4200), drawn(seed, -32768, 32767), drawn(seed, -33000, 33000), drawn(seed, -1, 1), wild(seed))
	}
	return l
}

// wantBlock ends a test at its first wrong number.
func wantBlock(t *testing.T, call string, of, got, want api.Block) {
	if got == want {
		return
	}
	t.Helper()
	for i := range want {
		if got[i] != want[i] {
			t.Fatalf("%s of %v: at %d is %d, want %d", call, of, i, got[i], want[i])
		}
	}
}
