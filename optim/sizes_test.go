package optim

import (
	"math"
	"slices"
	"testing"
)

func TestSizesWrittenOut(t *testing.T) {
	for _, c := range []struct {
		often, want []int
	}{
		{[]int{5, 1}, []int{1, 2}},
		{[]int{1, 5}, []int{2, 1}},
		{[]int{0, 7}, []int{0, 1}},
		{[]int{2, 2}, []int{1, 2}},
		{[]int{1, 1, 1, 1}, []int{2, 2, 2, 3}},
		{[]int{1, 2, 4, 8}, []int{4, 3, 2, 1}},
		{[]int{-3, 8, 0, 4, 2}, []int{0, 1, 0, 2, 3}},
		{[]int{most - 1, most}, []int{2, 1}},
		{[]int{most, most + 1}, []int{1, 2}},
		{[]int{most, math.MaxInt}, []int{1, 2}},
		{[]int{1, 0, -1, 1}, []int{1, 0, 0, 2}},
		{[]int{2, math.MinInt, 1}, []int{1, 0, 2}},
		{powers(21), []int{21, 20, 19, 18, 17, 16, 15, 14, 13, 12, 11, 10, 9, 8, 7, 6, 5, 4, 3, 2, 1}},
	} {
		want := append(slices.Clone(c.want), alike(0, 256-len(c.want))...)
		if got := Sizes(c.often); !slices.Equal(got, want) {
			t.Errorf("Sizes of %v: %v, not %v", c.often, got, want)
		}
	}
}

func TestSizesAgainstTheWords(t *testing.T) {
	eachList(t, func(t *testing.T, a asked) {
		want, _, _ := sizesOf(a.often)
		if got := Sizes(a.often); !slices.Equal(got, want) {
			t.Errorf("Sizes: %v, not %v", got, want)
		}
	})
}

// Of none that comes, and of all others: 256 numbers.
func TestSizesAreOfAllValues(t *testing.T) {
	for _, a := range noneLists() {
		if got := Sizes(a.often); !slices.Equal(got, alike(0, 256)) {
			t.Errorf("of %s: %v", a.name, got)
		}
	}
	for _, many := range []int{1, 2, 255, 256, 257, 5000} {
		if got := Sizes(rising(many)); len(got) != 256 {
			t.Errorf("of %d numbers: %d sizes", many, len(got))
		}
	}
}

// One alone has a size of one bit, whatever it is, and however often it comes.
func TestSizesOfOne(t *testing.T) {
	for value := range 256 {
		for _, many := range []int{1, 2, 1000, most, math.MaxInt} {
			if got := Sizes(at(value, many)); !slices.Equal(got, append(at(value, 1), alike(0, 255-value)...)) {
				t.Fatalf("of %d times %d: %v", many, value, got)
			}
		}
	}
}

// A number beyond an end is as good as the end.
func TestSizesOfClipped(t *testing.T) {
	for seed := range 200 {
		d := newDrawer(seed)
		raw, clipped := make([]int, 256), make([]int, 256)
		for i := range raw {
			switch d.below(4) {
			case 0:
				raw[i], clipped[i] = most+d.below(1<<40), most
			case 1:
				raw[i] = -d.below(1 << 40)
			default:
				raw[i] = 1 + d.below(most)
				clipped[i] = raw[i]
			}
		}
		if !slices.Equal(Sizes(raw), Sizes(clipped)) {
			t.Fatalf("of %v and what it is clipped to sizes differ", raw)
		}
	}
	for _, n := range []int{most + 1, 2 * most, 1 << 32, 1 << 52, math.MaxInt} {
		if !slices.Equal(Sizes(append(alike(most/2, 4), n)), Sizes(append(alike(most/2, 4), most))) {
			t.Errorf("%d is not clipped to 2^20", n)
		}
	}
}

// Behind the 256th number there is nothing, and behind a list's end there are noughts.
func TestSizesOfLongAndShort(t *testing.T) {
	for seed := range 200 {
		d := newDrawer(seed)
		l := make([]int, 256)
		for i := range 1 + d.below(255) {
			l[i] = d.below(100)
		}
		want := Sizes(l)
		if got := Sizes(append(slices.Clone(l), 1, 1000, most, -1)); !slices.Equal(got, want) {
			t.Fatalf("of %v with more behind: %v", l, got)
		}
		last := len(l)
		for last > 0 && l[last-1] == 0 {
			last--
		}
		if got := Sizes(l[:last:last]); !slices.Equal(got, want) {
			t.Fatalf("of %v without its last noughts: %v", l, got)
		}
	}
}

// Just those that come have a size; with 256's they fill up all that there is, so that no code of one more has room.
func TestSizesFillUp(t *testing.T) {
	eachList(t, func(t *testing.T, a asked) {
		comes, sum := comesOf(a.often), 0.0
		for value, size := range Sizes(a.often) {
			if (size > 0) != (comes[value] > 0) {
				t.Errorf("%d comes %d times and has size %d", value, comes[value], size)
			}
			if size > 0 {
				sum += math.Ldexp(1, -size)
			}
			if size > 36 {
				t.Errorf("%d has size %d", value, size)
			}
		}
		if _, extra, _ := sizesOf(a.often); extra > 0 && sum+math.Ldexp(1, -extra) != 1 {
			t.Errorf("the sizes fill up %v, and 2^-%d", sum, extra)
		}
	})
}

// The greatest sizes there may be: each is told as it is, above 16 too.
func TestSizesOfTheDeepest(t *testing.T) {
	want := make([]int, 256)
	for i := range 128 {
		want[i] = 7
	}
	// One of them goes with the tree of the lightest, whose sizes fall off by ones; 256 is one of the two deepest.
	want[127] = 8
	for i := range 28 {
		want[255-i] = 36 - i
	}
	if got := Sizes(deepest()); !slices.Equal(got, want) {
		t.Errorf("of the deepest: %v, not %v", got, want)
	}
}

// Where no number of a tree ever tells, values may change places, and sizes go with them.
func TestSizesGoWithTheirValues(t *testing.T) {
	for seed := range 200 {
		a := drawnFree(seed)
		l := append(slices.Clone(a.often), alike(0, 256-len(a.often))...)
		want := Sizes(l)
		slices.Reverse(l)
		got := Sizes(l)
		slices.Reverse(got)
		if !slices.Equal(got, want) {
			t.Fatalf("%s: from the last on %v, not %v", a.name, got, want)
		}
	}
}

// Of as light trees the one of the greatest number is taken: sizes that one of the least would not give.
func TestSizesOfTies(t *testing.T) {
	for _, c := range []struct {
		often, want []int
	}{
		{alike(1, 3), []int{2, 2, 2}},
		{alike(1, 5), []int{2, 2, 3, 3, 3}},
		{alike(1, 6), []int{2, 3, 3, 3, 3, 3}},
		{alike(2, 3), []int{2, 2, 2}},
		{alike(2, 4), []int{2, 2, 2, 3}},
	} {
		got := Sizes(c.often)[:len(c.want)]
		if want, _, tied := sizesOf(c.often); !tied || !slices.Equal(got, want[:len(c.want)]) {
			t.Errorf("Sizes of %v: %v, not %v", c.often, got, want[:len(c.want)])
		}
		if !slices.Equal(got, c.want) {
			t.Errorf("Sizes of %v: %v, not %v", c.often, got, c.want)
		}
	}
	tied := 0
	for seed := range 400 {
		if _, _, is := sizesOf(drawnTied(seed).often); is {
			tied++
		}
	}
	if tied < 350 {
		t.Errorf("%d of 400 have ties: too few to tell", tied)
	}
}
