package plane

import (
	"math"
	"slices"
	"testing"

	"cyanotype/api"
)

// modes are those there are.
func modes() []int {
	return []int{api.Gray, api.Full, api.Wide, api.Half}
}

// noModes are numbers that are no modes: beside both ends, with a mode's lower bits, and at both ends of an int.
func noModes() []int {
	return []int{0, -1, -2, -3, -4, 5, 6, 255, 257, 1<<32 + 1, math.MinInt, math.MinInt + 1, math.MaxInt}
}

// noSides are numbers that no image is wide, or high.
func noSides() []int {
	return []int{0, -1, -8, -65535, 65536, 65537, 1 << 20, 1 << 31, 1<<32 + 8, 1 << 40, 1<<40 + 1, 1 << 62, math.MaxInt - 7, math.MaxInt, math.MinInt, math.MinInt + 1}
}

func grid(w, h, mode int) [2]int {
	across, down := Grid(api.P{W: w, H: h, Mode: mode})
	return [2]int{across, down}
}

func side(mode int) [2]int {
	w, h := Side(mode)
	return [2]int{w, h}
}

func TestExamples(t *testing.T) {
	if got := grid(17, 9, api.Half); got != [2]int{2, 1} {
		t.Errorf("Grid of 17 by 9, Half: %v", got)
	}
}

func TestSides(t *testing.T) {
	for mode, want := range map[int][][2]int{
		api.Gray: {{1, 1}},
		api.Full: {{1, 1}, {1, 1}, {1, 1}},
		api.Wide: {{2, 1}, {1, 1}, {1, 1}},
		api.Half: {{2, 2}, {1, 1}, {1, 1}},
	} {
		if got := Sides(mode); !slices.Equal(got, want) {
			t.Errorf("Sides of %d: %v, want %v", mode, got, want)
		}
	}
}

func TestSide(t *testing.T) {
	for mode, want := range map[int][2]int{api.Gray: {8, 8}, api.Full: {8, 8}, api.Wide: {16, 8}, api.Half: {16, 16}} {
		if got := side(mode); got != want {
			t.Errorf("Side of %d: %v, want %v", mode, got, want)
		}
	}
}

func TestNoModes(t *testing.T) {
	for _, mode := range noModes() {
		if got := Sides(mode); len(got) != 0 {
			t.Errorf("Sides of %d: %v", mode, got)
		}
		if got := side(mode); got != [2]int{} {
			t.Errorf("Side of %d: %v", mode, got)
		}
		for _, w := range []int{1, 8, 17, 65535} {
			if got := grid(w, 9, mode); got != [2]int{} {
				t.Errorf("Grid of %d by 9, %d: %v", w, mode, got)
			}
		}
	}
}

func TestGridWrittenOut(t *testing.T) {
	for _, c := range []struct {
		w, h, mode int
		want       [2]int
	}{
		{1, 1, api.Gray, [2]int{1, 1}},
		{1, 1, api.Half, [2]int{1, 1}},
		{8, 8, api.Gray, [2]int{1, 1}},
		{9, 8, api.Gray, [2]int{2, 1}},
		{8, 9, api.Gray, [2]int{1, 2}},
		{17, 9, api.Gray, [2]int{3, 2}},
		{17, 9, api.Full, [2]int{3, 2}},
		{17, 9, api.Wide, [2]int{2, 2}},
		{16, 17, api.Wide, [2]int{1, 3}},
		{16, 16, api.Half, [2]int{1, 1}},
		{16, 17, api.Half, [2]int{1, 2}},
		{33, 65, api.Half, [2]int{3, 5}},
		{65535, 65535, api.Gray, [2]int{8192, 8192}},
		{65535, 65535, api.Full, [2]int{8192, 8192}},
		{65535, 65535, api.Wide, [2]int{4096, 8192}},
		{65535, 65535, api.Half, [2]int{4096, 4096}},
		{65534, 1, api.Wide, [2]int{4096, 1}},
		{1, 65535, api.Wide, [2]int{1, 8192}},
	} {
		if got := grid(c.w, c.h, c.mode); got != c.want {
			t.Errorf("Grid of %d by %d, %d: %v, want %v", c.w, c.h, c.mode, got, c.want)
		}
	}
}

// The least number of MCUs that leaves no pixel out, for each width and height there is.
func TestGridOfAllSides(t *testing.T) {
	for _, mode := range modes() {
		s := side(mode)
		for n := 1; n <= 65535; n++ {
			wide, high := grid(n, 1, mode), grid(1, n, mode)
			if wide[1] != 1 || wide[0]*s[0] < n || (wide[0]-1)*s[0] >= n {
				t.Fatalf("Grid of %d by 1, %d: %v", n, mode, wide)
			}
			if high[0] != 1 || high[1]*s[1] < n || (high[1]-1)*s[1] >= n {
				t.Fatalf("Grid of 1 by %d, %d: %v", n, mode, high)
			}
		}
	}
}

func TestGridOfNoSides(t *testing.T) {
	for _, mode := range modes() {
		for _, n := range noSides() {
			for _, other := range append(noSides(), 1, 8, 65535) {
				if got := grid(n, other, mode); got != [2]int{} {
					t.Errorf("Grid of %d by %d, %d: %v", n, other, mode, got)
				}
				if got := grid(other, n, mode); got != [2]int{} {
					t.Errorf("Grid of %d by %d, %d: %v", other, n, mode, got)
				}
			}
		}
	}
}

func TestGridHangsOnNothingElse(t *testing.T) {
	for _, n := range []int{-1, 0, 1, 100, 65536, math.MaxInt, math.MinInt} {
		across, down := Grid(api.P{W: 17, H: 9, Mode: api.Half, Quality: n, Interval: n, Class: n})
		if across != 2 || down != 1 {
			t.Errorf("with %d beside: %d, %d", n, across, down)
		}
	}
}

// What Sides tells is new memory each time.
func TestSidesAreNew(t *testing.T) {
	for _, mode := range modes() {
		want := slices.Clone(Sides(mode))
		got := Sides(mode)
		for i := range got[:cap(got)] {
			got[i] = [2]int{77, 77}
		}
		if !slices.Equal(Sides(mode), want) || side(mode) == [2]int{616, 616} {
			t.Errorf("Sides of %d were changed from outside", mode)
		}
	}
}
