package num

import (
	"math"
	"math/big"
	"testing"
)

// want holds an answer against the chapter's.
func want(t *testing.T, call string, got, expect int, args ...int) {
	t.Helper()
	if got != expect {
		t.Errorf("%s%v = %d, want %d", call, args, got, expect)
	}
}

func TestExamples(t *testing.T) {
	want(t, "Size", Size(-5), 3, -5)
	want(t, "Low", Low(-5), 2, -5)
	want(t, "Back", Back(2, 3), -5, 2, 3)
	want(t, "Round", Round(5, 2), 3, 5, 2)
	want(t, "Round", Round(-5, 2), -3, -5, 2)
}

func TestClip(t *testing.T) {
	for _, c := range [][4]int{
		// n, low, high, answer
		{3, 1, 5, 3},
		{1, 1, 5, 1},
		{5, 1, 5, 5},
		{0, 1, 5, 1},
		{9, 1, 5, 5},
		{-9, -5, -1, -5},
		{0, -5, -1, -1},
		{-3, -5, -1, -3},
		{0, 0, 0, 0},
		{4, 4, 4, 4},
		{3, 4, 4, 4},
		{5, 4, 4, 4},
		{math.MinInt, -1, 1, -1},
		{math.MaxInt, -1, 1, 1},
		{math.MinInt, math.MinInt, math.MaxInt, math.MinInt},
		{math.MaxInt, math.MinInt, math.MaxInt, math.MaxInt},
		{0, math.MaxInt, math.MaxInt, math.MaxInt},
		{0, math.MinInt, math.MinInt, math.MinInt},
	} {
		want(t, "Clip", Clip(c[0], c[1], c[2]), c[3], c[:3]...)
	}
}

func TestClipLowAboveHigh(t *testing.T) {
	for _, c := range [][4]int{
		// n, low, high, answer
		{0, 5, 1, 5},
		{1, 5, 1, 5},
		{3, 5, 1, 5},
		{4, 5, 1, 5},
		{5, 5, 1, 1},
		{9, 5, 1, 1},
		{math.MaxInt - 1, math.MaxInt, math.MinInt, math.MaxInt},
		{math.MaxInt, math.MaxInt, math.MinInt, math.MinInt},
	} {
		want(t, "Clip", Clip(c[0], c[1], c[2]), c[3], c[:3]...)
	}
}

func TestCeil(t *testing.T) {
	const top = 1 << 40
	for _, c := range [][3]int{
		// n, d, answer
		{9, 8, 2},
		{8, 8, 1},
		{7, 8, 1},
		{1, 8, 1},
		{0, 8, 0},
		{0, 1, 0},
		{1, 1, 1},
		{17, 16, 2},
		{65535, 8, 8192},
		{top, 1, top},
		{top, 2, top / 2},
		{top, 3, 366503875926},
		{top, top, 1},
		{top, top - 1, 2},
		{top - 1, top, 1},
		{1, top, 1},
		{0, top, 0},
	} {
		want(t, "Ceil", Ceil(c[0], c[1]), c[2], c[:2]...)
	}
}

func TestCeilBeyond(t *testing.T) {
	const top = 1 << 40
	for _, n := range []int{-1, top + 1, math.MinInt, math.MaxInt} {
		for _, d := range []int{1, 2, top} {
			want(t, "Ceil", Ceil(n, d), 0, n, d)
		}
	}
	for _, d := range []int{0, -1, -8, top + 1, math.MinInt, math.MaxInt} {
		for _, n := range []int{0, 1, 9, top, -9, top + 1, math.MinInt, math.MaxInt} {
			want(t, "Ceil", Ceil(n, d), 0, n, d)
		}
	}
}

// TestCeilLeast asks the chapter's own words: the least k whose d-fold is not below n.
func TestCeilLeast(t *testing.T) {
	for n := range 200 {
		for d := 1; d <= 200; d++ {
			k := 0
			for k*d < n {
				k++
			}
			want(t, "Ceil", Ceil(n, d), k, n, d)
		}
	}
}

func TestRound(t *testing.T) {
	for _, c := range [][3]int{
		// n, d, answer
		{0, 1, 0},
		{0, 1 << 60, 0},
		{1, 1, 1},
		{1, 2, 1},
		{1, 3, 0},
		{2, 3, 1},
		{4, 3, 1},
		{5, 3, 2},
		{7, 2, 4},
		{10, 4, 3},
		{9, 4, 2},
		{11, 4, 3},
		{1 << 62, 1, 1 << 62},
		{1 << 62, 2, 1 << 61},
		{1 << 62, 3, 1537228672809129301},
		{1<<62 - 1, 1 << 60, 4},
		{1 << 62, 1 << 60, 4},
		{1 << 62, 1<<60 - 1, 4},
		{7 << 59, 1 << 60, 4},
		{7<<59 - 1, 1 << 60, 3},
		{1 << 59, 1 << 60, 1},
		{1<<59 - 1, 1 << 60, 0},
		{1 << 59, 1<<60 - 1, 1},
		{1<<59 - 1, 1<<60 - 1, 0},
	} {
		want(t, "Round", Round(c[0], c[1]), c[2], c[:2]...)
		want(t, "Round", Round(-c[0], c[1]), -c[2], -c[0], c[1])
	}
}

func TestRoundBeyond(t *testing.T) {
	for _, n := range []int{1<<62 + 1, -1<<62 - 1, math.MaxInt, math.MinInt + 1, math.MinInt} {
		for _, d := range []int{1, 2, 1 << 60} {
			want(t, "Round", Round(n, d), 0, n, d)
		}
	}
	for _, d := range []int{0, -1, -2, 1<<60 + 1, math.MaxInt, math.MinInt} {
		for _, n := range []int{0, 1, -1, 5, 1 << 62, -1 << 62, 1<<62 + 1, math.MinInt, math.MaxInt} {
			want(t, "Round", Round(n, d), 0, n, d)
		}
	}
}

// nearest is the chapter's rounding, reckoned in numbers that have no end.
func nearest(n, d int) int {
	a := new(big.Int).Abs(big.NewInt(int64(n)))
	by := big.NewInt(int64(d))
	q, r := new(big.Int).QuoRem(a, by, new(big.Int))
	if r.Lsh(r, 1).Cmp(by) >= 0 {
		q.Add(q, big.NewInt(1))
	}
	if n < 0 {
		q.Neg(q)
	}
	return int(q.Int64())
}

func TestRoundNearest(t *testing.T) {
	for n := -300; n <= 300; n++ {
		for d := 1; d <= 100; d++ {
			want(t, "Round", Round(n, d), nearest(n, d), n, d)
		}
	}
	// Large numbers beside powers of two, where a sum might run over.
	for i := range 63 {
		for j := range 61 {
			for near := -1; near <= 1; near++ {
				n, d := min(1<<i+near, 1<<62), Clip(1<<j-near, 1, 1<<60)
				want(t, "Round", Round(n, d), nearest(n, d), n, d)
				want(t, "Round", Round(-n, d), nearest(-n, d), -n, d)
			}
		}
	}
}

func TestSize(t *testing.T) {
	want(t, "Size", Size(0), 0, 0)
	want(t, "Size", Size(math.MinInt), 64, math.MinInt)
	want(t, "Size", Size(math.MaxInt), 63, math.MaxInt)
	want(t, "Size", Size(math.MinInt+1), 63, math.MinInt+1)
	for s := 1; s <= 63; s++ {
		least, most := 1<<(s-1), 1<<(s-1)-1+1<<(s-1)
		for _, n := range []int{least, most, -least, -most} {
			want(t, "Size", Size(n), s, n)
		}
	}
}

func TestLow(t *testing.T) {
	for _, c := range [][2]int{
		// n, answer
		{0, 0},
		{1, 1},
		{-1, 0},
		{2, 2},
		{3, 3},
		{-2, 1},
		{-3, 0},
		{4, 4},
		{5, 5},
		{-4, 3},
		{-7, 0},
		{1023, 1023},
		{-1023, 0},
		{-1024, 1023},
		{1<<31 - 1, 1<<31 - 1},
		{-1<<31 + 1, 0},
		{1 << 31, 1 << 31},
		{-1 << 31, 1<<31 - 1},
	} {
		want(t, "Low", Low(c[0]), c[1], c[0])
	}
}

func TestLowBeyond(t *testing.T) {
	for _, n := range []int{1<<31 + 1, 1 << 32, 1 << 40, 1 << 62, math.MaxInt} {
		want(t, "Low", Low(n), 0, n)
		want(t, "Low", Low(-n), 0, -n)
	}
	want(t, "Low", Low(math.MinInt), 0, math.MinInt)
}

func TestBack(t *testing.T) {
	for _, c := range [][3]int{
		// v, size, answer
		{0, 0, 0},
		{0, 1, -1},
		{1, 1, 1},
		{0, 2, -3},
		{1, 2, -2},
		{2, 2, 2},
		{3, 2, 3},
		{0, 3, -7},
		{3, 3, -4},
		{4, 3, 4},
		{7, 3, 7},
		{0, 31, -1<<31 + 1},
		{1<<30 - 1, 31, -1 << 30},
		{1 << 30, 31, 1 << 30},
		{1<<31 - 1, 31, 1<<31 - 1},
	} {
		want(t, "Back", Back(c[0], c[1]), c[2], c[:2]...)
	}
}

func TestBackBeyond(t *testing.T) {
	for _, size := range []int{-1, -64, 32, 33, 63, 64, 65, math.MinInt, math.MaxInt} {
		for _, v := range []int{0, 1, 5, -1, 1 << 30, 1<<31 - 1, 1 << 31, 1<<32 - 1, math.MinInt, math.MaxInt} {
			want(t, "Back", Back(v, size), 0, v, size)
		}
	}
	for size := range 32 {
		for _, v := range []int{-1, -2, 1 << size, 1<<size + 1, 1 << 31, 1 << 40, math.MinInt, math.MaxInt} {
			want(t, "Back", Back(v, size), 0, v, size)
		}
	}
}

// TestNumberToldBySizeAndBits is what holds: there and back, and no two numbers are told alike.
func TestNumberToldBySizeAndBits(t *testing.T) {
	told := map[[2]int]int{}
	for n := -5000; n <= 5000; n++ {
		key := [2]int{Size(n), Low(n)}
		if other, ok := told[key]; ok {
			t.Errorf("%d and %d are told alike", other, n)
		}
		told[key] = n
		want(t, "Back", Back(key[1], key[0]), n, key[1], key[0])
	}
	for size := 1; size <= 31; size++ {
		least, most := 1<<(size-1), 1<<size-1
		for _, n := range []int{least, most, (least + most) / 2, -least, -most, -(least + most) / 2} {
			want(t, "Back", Back(Low(n), Size(n)), n, Low(n), Size(n))
		}
	}
}

// TestBackHasItsSizeAndLow goes the other way: from a size and its bits to a number that has both.
func TestBackHasItsSizeAndLow(t *testing.T) {
	hold := func(v, size int) {
		n := Back(v, size)
		want(t, "Size of Back", Size(n), size, v, size)
		want(t, "Low of Back", Low(n), v, v, size)
	}
	for size := range 13 {
		for v := range 1 << size {
			hold(v, size)
		}
	}
	for size := 13; size <= 31; size++ {
		for _, v := range []int{0, 1, 1<<(size-1) - 1, 1 << (size - 1), 1<<size - 2, 1<<size - 1} {
			hold(v, size)
		}
	}
}
