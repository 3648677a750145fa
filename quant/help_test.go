package quant

import (
	"math"
	"strconv"
	"strings"
	"testing"

	"cyanotype/api"
	"cyanotype/sec"
)

// The chapter's order and its two lists as they stand there.
const (
	writtenOrder = `
0 1 8 16 9 2 3 10 17 24 32 25 18 11 4 5
12 19 26 33 40 48 41 34 27 20 13 6 7 14 21 28
35 42 49 56 57 50 43 36 29 22 15 23 30 37 44 51
58 59 52 45 38 31 39 46 53 60 61 54 47 55 62 63
`
	writtenLuma = `
16 11 10 16 24 40 51 61
12 12 14 19 26 58 60 55
14 13 16 24 40 57 69 56
14 17 22 29 51 87 80 62
18 22 37 56 68 109 103 77
24 35 55 64 81 104 113 92
49 64 78 87 103 121 120 101
72 92 95 98 112 100 103 99
`
	writtenColor = `
17 18 24 47 99 99 99 99
18 21 26 66 99 99 99 99
24 26 56 99 99 99 99 99
47 66 99 99 99 99 99 99
99 99 99 99 99 99 99 99
99 99 99 99 99 99 99 99
99 99 99 99 99 99 99 99
99 99 99 99 99 99 99 99
`
)

// The same as numbers: the package's own are asked by none of the tests' sums.
var (
	wantOrder = parted(writtenOrder)
	wantLists = [2][]int{parted(writtenLuma), parted(writtenColor)}
)

func parted(written string) []int {
	var l []int
	for _, word := range strings.Fields(written) {
		n, err := strconv.Atoi(word)
		if err != nil {
			panic(err)
		}
		l = append(l, n)
	}
	if len(l) != 64 {
		panic("not 64 numbers")
	}
	return l
}

// tableOf is what the chapter asks of Table.
func tableOf(part, quality int) []int {
	list := wantLists[1]
	if part == 0 {
		list = wantLists[0]
	}
	quality = max(1, min(quality, 100))
	s := 200 - 2*quality
	if quality < 50 {
		s = 5000 / quality
	}
	var l []int
	for _, n := range list {
		l = append(l, max(1, min((s*n+50)/100, 255)))
	}
	return l
}

// nearest is n by d in other words than num.Round: a quotient, one further from 0 where half a step or more is left.
func nearest(n, d int) int {
	q, left := n/d, n%d
	switch {
	case 2*left >= d:
		q++
	case -2*left >= d:
		q--
	}
	return q
}

// forwardOf is what the chapter asks of Forward, by proper steps: each place asks for its i, where the package goes the other way.
func forwardOf(b api.Block, q []int) api.Block {
	var z api.Block
	for place, n := range b {
		for i, at := range wantOrder {
			if at == place {
				z[i] = max(-1023, min(nearest(max(-32767, min(n, 32767)), q[place]), 1023))
			}
		}
	}
	if nearest(max(-32767, min(b[0], 32767)), q[0]) < -1023 {
		z[0] = -1024
	}
	return z
}

// backOf is what it asks of Back.
func backOf(z api.Block, q []int) api.Block {
	var b api.Block
	for place := range b {
		for i, at := range wantOrder {
			if at == place {
				b[place] = q[place] * max(-2048, min(z[i], 2047))
			}
		}
	}
	return b
}

// forwardHidden and backHidden open what comes out: not on the way, but behind it.
func forwardHidden(b api.Block, q []int) api.Block {
	return opened(ForwardSec(hidden(b), q))
}

func backHidden(z api.Block, q []int) api.Block {
	return opened(BackSec(hidden(z), q))
}

func hidden(b api.Block) [64]sec.Sec {
	var out [64]sec.Sec
	for i, n := range b {
		out[i] = sec.Of(n)
	}
	return out
}

func opened(b [64]sec.Sec) api.Block {
	var out api.Block
	for i, s := range b {
		out[i] = s.Open(nil)
	}
	return out
}

// asked is a way as the tests ask it: its plain and its secret call, and what the chapter asks of both.
type asked struct {
	name                string
	plain, secret, want func(api.Block, []int) api.Block
}

func calls() []asked {
	return []asked{
		{"Forward", Forward, forwardHidden, forwardOf},
		{"Back", Back, backHidden, backOf},
	}
}

// all is 64 times one number, allSteps 64 steps of one number.
func all(n int) api.Block {
	var b api.Block
	for i := range b {
		b[i] = n
	}
	return b
}

func allSteps(n int) []int {
	b := all(n)
	return b[:]
}

// alone is one number at one place, and noughts.
func alone(place, n int) api.Block {
	var b api.Block
	b[place] = n
	return b
}

// numbers are those within the clips, their ends, what is beside them, and both ends of what an int holds; some have the lower bits of others.
func numbers() []int {
	return []int{
		0, 1, -1, 2, -2, 3, -3, 4, -4, 5, -5, 7, 8, -8, 63, 64, 100, -100, 127, 128, -127, -128, -129, 200, 254, 255, 256, -255, -256, 1000, -1001,
		1022, 1023, 1024, 1025, -1022, -1023, -1024, -1025, -1026, 2046, 2047, 2048, 2049, -2046, -2047, -2048, -2049, -2050,
		4095, 4096, -4096, 16383, -16384, 32765, 32766, 32767, 32768, 32769, 32770, -32766, -32767, -32768, -32769, -32770,
		65535, 65536, 65537, -65535, -65536, -65537, 1<<31 - 1, 1 << 31, -1 << 31, -1<<31 - 1, 1 << 32, 1<<32 + 100, -1<<32 + 100, 1 << 40, -1 << 40, 1 << 55, 1 << 62, 1<<62 + 1, -1 << 62, -1<<62 - 1,
		math.MaxInt, math.MaxInt - 1, math.MinInt, math.MinInt + 1,
	}
}

// draw is numbers of 64 bits that follow no pattern of a block's.
func draw(seed int) [64]uint64 {
	x := uint64(seed)*2654435769 + 88172645463325252
	var l [64]uint64
	for i := range l {
		x ^= x << 13
		x ^= x >> 7
		x ^= x << 17
		l[i] = x
	}
	return l
}

// drawn is a block of numbers from low to high, drawnSteps are steps.
func drawn(seed, low, high int) api.Block {
	var b api.Block
	for i, x := range draw(seed) {
		b[i] = low + int(x>>8%uint64(high-low+1))
	}
	return b
}

func drawnSteps(seed int) []int {
	b := drawn(seed, 1, 255)
	return b[:]
}

// wild is a block of numbers of which some are within the clips, and some are ends, or beyond.
func wild(seed int) api.Block {
	b := drawn(seed, -2048, 2047)
	l := numbers()
	for i, x := range draw(seed + 1000) {
		if x%3 == 0 {
			b[i] = l[x>>8%uint64(len(l))]
		}
	}
	return b
}

// rising are steps that differ from place to place.
func rising(first int) []int {
	l := make([]int, 64)
	for i := range l {
		l[i] = first + i
	}
	return l
}

// steps are of all kinds that the tests hold a call against its words by.
func steps() [][]int {
	l := [][]int{allSteps(1), allSteps(2), allSteps(3), allSteps(128), allSteps(254), allSteps(255), rising(1), rising(101), rising(192)}
	for _, quality := range []int{1, 2, 10, 25, 49, 50, 51, 75, 90, 99, 100} {
		l = append(l, tableOf(0, quality), tableOf(1, quality))
	}
	for seed := range 10 {
		l = append(l, drawnSteps(seed))
	}
	return l
}

// blocks are of all kinds.
func blocks() []api.Block {
	l := []api.Block{{}}
	for _, n := range numbers() {
		l = append(l, all(n))
	}
	for seed := range 12 {
		l = append(l, drawn(seed, -1, 1), drawn(seed, -128, 127), drawn(seed, -1100, 1100), drawn(seed, -2100, -1), drawn(seed, -33000, 33000), wild(seed))
	}
	return l
}

// wantBlock ends a test at its first wrong number.
func wantBlock(t *testing.T, call string, of api.Block, q []int, got, want api.Block) {
	if got == want {
		return
	}
	t.Helper()
	for i := range want {
		if got[i] != want[i] {
			t.Fatalf("%s of %v by %v: at %d is %d, want %d", call, of, q, i, got[i], want[i])
		}
	}
}
