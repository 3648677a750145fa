package quant

import (
	"math"
	"slices"
	"testing"
)

// no are numbers that are no place of a block.
func no() []int {
	return []int{-1, -2, -8, -63, -64, -65, 64, 65, 66, 127, 128, 129, 255, 256, -256, 1 << 31, 1<<32 + 3, -1 << 32, -1<<32 + 3, 1 << 62, math.MaxInt - 63, math.MaxInt, math.MinInt, math.MinInt + 1, math.MinInt + 3}
}

func TestExamples(t *testing.T) {
	if got := Zig(2); got != 8 {
		t.Errorf("Zig(2) = %d, want 8", got)
	}
	if got := Table(0, 50)[:3]; !slices.Equal(got, []int{16, 11, 10}) {
		t.Errorf("Table(0, 50) begins %v", got)
	}
}

func TestZigOfTheOrder(t *testing.T) {
	for i, want := range wantOrder {
		if got := Zig(i); got != want {
			t.Errorf("Zig(%d) = %d, want %d", i, got, want)
		}
	}
}

func TestZigOfNone(t *testing.T) {
	for _, i := range no() {
		if got := Zig(i); got != 0 {
			t.Errorf("Zig(%d) = %d, want 0", i, got)
		}
	}
}

// By rising frequencies: each place is behind those whose row and column make less, and beside one that they make as much of, or one less.
func TestZigGoesByDiagonals(t *testing.T) {
	var seen [64]bool
	last := 0
	for i := range 64 {
		place := Zig(i)
		if seen[place] {
			t.Errorf("Zig is %d twice", place)
		}
		seen[place] = true
		x, y, lastX, lastY := place%8, place/8, last%8, last/8
		if x+y < lastX+lastY || x+y > lastX+lastY+1 || max(x-lastX, lastX-x, y-lastY, lastY-y) > 1 {
			t.Errorf("Zig(%d) is %d, behind %d", i, place, last)
		}
		last = place
	}
}

// qualities are all, and what is beyond them.
func qualities() []int {
	l := []int{0, -1, -2, -49, -50, -100, 101, 102, 150, 200, 256, 5000, 1 << 31, 1<<32 + 50, -1<<32 + 50, 1 << 62, -1 << 62, math.MaxInt, math.MaxInt - 1, math.MinInt, math.MinInt + 1, math.MinInt + 50}
	for quality := 1; quality <= 100; quality++ {
		l = append(l, quality)
	}
	return l
}

func parts() []int {
	return []int{0, 1, 2, 3, 4, 255, 256, 1 << 32, 1 << 62, -1, -2, -256, -1 << 32, math.MaxInt, math.MinInt}
}

func TestTable(t *testing.T) {
	for _, part := range parts() {
		for _, quality := range qualities() {
			if got, want := Table(part, quality), tableOf(part, quality); !slices.Equal(got, want) {
				t.Errorf("Table(%d, %d) = %v, want %v", part, quality, got, want)
			}
		}
	}
}

// Numbers that are worked out by hand, so that the tests' own sums are held against something too.
func TestTableWrittenOut(t *testing.T) {
	for _, c := range []struct {
		part, quality, place, want int
	}{
		{0, 50, 0, 16}, {0, 50, 63, 99}, {0, 50, 7, 61}, {0, 50, 56, 72}, {1, 50, 0, 17}, {1, 50, 7, 99}, {1, 50, 24, 47}, {1, 50, 3, 47},
		{0, 100, 0, 1}, {0, 100, 53, 1}, {1, 100, 9, 1}, // 0 is no step
		{0, 99, 0, 1}, {0, 99, 53, 2}, {0, 99, 54, 2}, {0, 99, 1, 1}, // 2 by 121 and 50 is 292; by 120, 290; by 11, 72
		{0, 75, 0, 8}, {0, 75, 1, 6}, {0, 75, 53, 61}, {0, 75, 50, 39}, // halves go up: 50 by 11 and 50 is 600
		{0, 49, 0, 16}, {0, 49, 50, 80}, {0, 49, 49, 65}, // 5000 by 49 is 102
		{0, 51, 0, 16}, {0, 51, 49, 63}, // 98 by 64 and 50 is 6322
		{0, 25, 0, 32}, {0, 25, 53, 242}, {0, 25, 54, 240}, {0, 10, 0, 80}, {0, 10, 6, 255}, {0, 10, 7, 255}, {0, 10, 5, 200}, {0, 10, 47, 255},
		{0, 3, 2, 167}, {0, 3, 1, 183}, // 5000 by 3 is 1666: 16660 and 50; 18326 and 50
		{0, 2, 2, 250}, {0, 2, 1, 255}, {0, 1, 2, 255}, {1, 1, 0, 255}, {1, 6, 0, 142}, // 5000 by 6 is 833: 14161 and 50
		{7, 75, 0, 9}, {-7, 75, 63, 50}, {7, 0, 63, 255}, {-7, 1000, 63, 1},
	} {
		if got := Table(c.part, c.quality)[c.place]; got != c.want {
			t.Errorf("Table(%d, %d): at %d is %d, want %d", c.part, c.quality, c.place, got, c.want)
		}
	}
}

// What is told are steps, whatever is asked.
func TestTableTellsSteps(t *testing.T) {
	for _, part := range parts() {
		for _, quality := range qualities() {
			l := Table(part, quality)
			if len(l) != 64 || slices.Min(l) < 1 || slices.Max(l) > 255 {
				t.Errorf("Table(%d, %d) = %v", part, quality, l)
			}
		}
	}
}

// A better quality has no greater steps.
func TestBetterQualities(t *testing.T) {
	for part := range 2 {
		for quality := 1; quality < 100; quality++ {
			worse, better := Table(part, quality), Table(part, quality+1)
			for place := range worse {
				if worse[place] < better[place] {
					t.Errorf("part %d: at %d is %d of %d, %d of %d", part, place, worse[place], quality, better[place], quality+1)
				}
			}
		}
	}
}

// What is told is the caller's: neither another answer, nor what is told from it on, is changed by it.
func TestTableIsNewMemory(t *testing.T) {
	for part := range 3 {
		for _, quality := range []int{0, 1, 49, 50, 75, 100, 101} {
			first, second := Table(part, quality), Table(part, quality)
			for i := range first {
				first[i] = -7
			}
			first = append(first[:10], 9999)
			clear(first[:cap(first)])
			if want := tableOf(part, quality); !slices.Equal(second, want) || !slices.Equal(Table(part, quality), want) {
				t.Errorf("Table(%d, %d) is changed from outside", part, quality)
			}
		}
	}
}
