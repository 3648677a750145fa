package optim

import (
	"slices"
	"testing"

	"cyanotype/api"
	"cyanotype/huff"
)

// one is a count of one at each length, up to so many.
func one(many int) [16]int {
	var l [16]int
	for i := range many {
		l[i] = 1
	}
	return l
}

func TestBestWrittenOut(t *testing.T) {
	// Of 21 powers of two, codes of 17 to 21 bits make room among those of 13 to 15.
	short := one(12)
	short[13], short[15] = 2, 7
	for _, c := range []struct {
		often  []int
		counts [16]int
		values []byte
	}{
		{[]int{5, 1}, [16]int{1, 1}, []byte{0, 1}},
		{[]int{1, 5}, [16]int{1, 1}, []byte{1, 0}},
		{[]int{0, 7}, [16]int{1}, []byte{1}},
		{[]int{1, 1, 1, 1}, [16]int{0, 3, 1}, []byte{0, 1, 2, 3}},
		{[]int{1, 2, 4, 8}, one(4), []byte{3, 2, 1, 0}},
		{[]int{-3, 8, 0, 4, 2}, one(3), []byte{1, 3, 4}},
		{[]int{1, 1, 1, 1, 1, 1}, [16]int{0, 1, 5}, []byte{0, 1, 2, 3, 4, 5}},
		{at(7, 1, 9, 4, 200, 4, 255, 2), one(4), []byte{9, 200, 255, 7}},
		{at(7, 2, 9, 3, 200, 3, 255, 2), [16]int{0, 3, 1}, []byte{7, 9, 200, 255}},
		{alike(1, 256), [16]int{7: 255, 8: 1}, nil},
		{powers(21), short, []byte{20, 19, 18, 17, 16, 15, 14, 13, 12, 11, 10, 9, 8, 7, 6, 5, 4, 3, 2, 1, 0}},
	} {
		got := Best(c.often)
		if got.Counts != c.counts || c.values != nil && !slices.Equal(got.Values, c.values) {
			t.Errorf("Best of %v: %v, not %v, %v", c.often, got, c.counts, c.values)
		}
	}
}

func TestBestAgainstTheWords(t *testing.T) {
	eachList(t, func(t *testing.T, a asked) {
		if got, want := Best(a.often), bestOf(a.often); !isSame(got, want) {
			t.Errorf("Best: %v, not %v", got, want)
		}
	})
}

// Of none that comes there is a table of nothing.
func TestBestOfNone(t *testing.T) {
	for _, a := range noneLists() {
		if got := Best(a.often); got.Counts != ([16]int{}) || len(got.Values) != 0 {
			t.Errorf("of %s: %v", a.name, got)
		}
	}
}

// One alone has one bit.
func TestBestOfOne(t *testing.T) {
	for value := range 256 {
		for _, many := range []int{1, 2, 77, most, most + 1} {
			want := api.Table{Counts: [16]int{1}, Values: []byte{byte(value)}}
			if got := Best(at(value, many)); !isSame(got, want) {
				t.Fatalf("of %d times %d: %v", many, value, got)
			}
		}
	}
}

// Each table may be, and none of its codes is of ones alone.
func TestBestIsChecked(t *testing.T) {
	eachList(t, func(t *testing.T, a asked) {
		table := Best(a.often)
		if !huff.Check(table) {
			t.Errorf("it is not Checked: %v", table)
		}
		for value, code := range huff.Codes(table) {
			if code.N > 0 && code.V >= 1<<code.N-1 {
				t.Errorf("the code of %d is of ones alone: %v", value, code)
			}
		}
	})
}

// Just those that come have a code, none longer than 16.
func TestBestHasThoseThatCome(t *testing.T) {
	eachList(t, func(t *testing.T, a asked) {
		comes := comesOf(a.often)
		for value, code := range huff.Codes(Best(a.often)) {
			if (code.N > 0) != (comes[value] > 0) || code.N > 16 {
				t.Errorf("%d comes %d times and has a code of %d bits", value, comes[value], code.N)
			}
		}
	})
}

// Values stand by rising size, of the same one by rising value; so one that comes oftener has no longer code.
func TestBestIsInOrder(t *testing.T) {
	eachList(t, func(t *testing.T, a asked) {
		table := Best(a.often)
		comes, sizes, codes := comesOf(a.often), Sizes(a.often), huff.Codes(table)
		for i := 1; i < len(table.Values); i++ {
			last, next := table.Values[i-1], table.Values[i]
			if sizes[last] > sizes[next] || sizes[last] == sizes[next] && last >= next {
				t.Errorf("%d stands behind %d", next, last)
			}
			if comes[last] < comes[next] && sizes[last] != sizes[next] || codes[last].N > codes[next].N {
				t.Errorf("%d comes oftener than %d, and has a longer code", next, last)
			}
		}
	})
}

// Where no size is above 16 there are as many codes of each length as values of that size, 256 among them, but for the one of the greatest that goes.
func TestBestKeepsSizes(t *testing.T) {
	kept := 0
	eachList(t, func(t *testing.T, a asked) {
		sizes, extra, _ := sizesOf(a.often)
		greatest := max(slices.Max(sizes), extra)
		if greatest > 16 {
			return
		}
		kept++
		var counts [17]int
		for _, size := range append(sizes, extra) {
			counts[size]++
		}
		counts[greatest]--
		if got := Best(a.often).Counts; !slices.Equal(got[:], counts[1:]) {
			t.Errorf("counts of %v, not %v", got, counts[1:])
		}
	})
	if kept < 500 {
		t.Errorf("%d lists without a size above 16: too few to tell", kept)
	}
}

// With sizes above 16 codes fill up all that there is, but for the last of 16 bits, which is 256's.
func TestBestMakesShort(t *testing.T) {
	made := 0
	eachList(t, func(t *testing.T, a asked) {
		sizes, extra, _ := sizesOf(a.often)
		if max(slices.Max(sizes), extra) <= 16 {
			return
		}
		made++
		room := 1 << 16
		for i, many := range Best(a.often).Counts {
			room -= many << (15 - i)
		}
		if room != 1 {
			t.Errorf("room for %d more of 16 bits", room)
		}
	})
	if made < 200 {
		t.Errorf("%d lists with a size above 16: too few to tell", made)
	}
}

// The deepest: lengths 17 to 36 are made short one by one.
func TestBestOfTheDeepest(t *testing.T) {
	table := Best(deepest())
	if want := bestOf(deepest()); !isSame(table, want) {
		t.Errorf("%v, not %v", table, want)
	}
	if table.Counts[6] != 127 || table.Counts[15] == 0 || len(table.Values) != 156 || table.Values[0] != 0 || table.Values[127] != 127 || table.Values[128] != 228 || table.Values[155] != 255 {
		t.Errorf("%v", table)
	}
}
