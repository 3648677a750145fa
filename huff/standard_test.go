package huff

import (
	"math"
	"slices"
	"strconv"
	"strings"
	"testing"

	"cyanotype/api"
)

// The chapter's lists as they stand there: counts, and values.
const (
	lumaFirst  = "0 1 5 1 1 1 1 1 1 0 0 0 0 0 0 0"
	colorFirst = "0 3 1 1 1 1 1 1 1 1 1 0 0 0 0 0"
	lumaOther  = "0 2 1 3 3 2 4 3 5 5 4 4 0 0 1 125"
	colorOther = "0 2 1 2 4 4 3 4 7 5 4 4 0 1 2 119"

	firstValues = "00 01 02 03 04 05 06 07 08 09 0a 0b"
	lumaValues  = `
01 02 03 00 04 11 05 12 21 31 41 06 13 51 61 07 22 71 14 32 81 91 a1 08 23 42 b1
c1 15 52 d1 f0 24 33 62 72 82 09 0a 16 17 18 19 1a 25 26 27 28 29 2a 34 35 36 37
38 39 3a 43 44 45 46 47 48 49 4a 53 54 55 56 57 58 59 5a 63 64 65 66 67 68 69 6a
73 74 75 76 77 78 79 7a 83 84 85 86 87 88 89 8a 92 93 94 95 96 97 98 99 9a a2 a3
a4 a5 a6 a7 a8 a9 aa b2 b3 b4 b5 b6 b7 b8 b9 ba c2 c3 c4 c5 c6 c7 c8 c9 ca d2 d3
d4 d5 d6 d7 d8 d9 da e1 e2 e3 e4 e5 e6 e7 e8 e9 ea f1 f2 f3 f4 f5 f6 f7 f8 f9 fa
`
	colorValues = `
00 01 02 03 11 04 05 21 31 06 12 41 51 07 61 71 13 22 32 81 08 14 42 91 a1 b1 c1
09 23 33 52 f0 15 62 72 d1 0a 16 24 34 e1 25 f1 17 18 19 1a 26 27 28 29 2a 35 36
37 38 39 3a 43 44 45 46 47 48 49 4a 53 54 55 56 57 58 59 5a 63 64 65 66 67 68 69
6a 73 74 75 76 77 78 79 7a 82 83 84 85 86 87 88 89 8a 92 93 94 95 96 97 98 99 9a
a2 a3 a4 a5 a6 a7 a8 a9 aa b2 b3 b4 b5 b6 b7 b8 b9 ba c2 c3 c4 c5 c6 c7 c8 c9 ca
d2 d3 d4 d5 d6 d7 d8 d9 da e2 e3 e4 e5 e6 e7 e8 e9 ea f2 f3 f4 f5 f6 f7 f8 f9 fa
`
)

// parted is the numbers of a text.
func parted(written string, base int) []int {
	var l []int
	for _, word := range strings.Fields(written) {
		n, err := strconv.ParseInt(word, base, 16)
		if err != nil {
			panic(err)
		}
		l = append(l, int(n))
	}
	return l
}

// standardOf is what the chapter asks of Standard.
func standardOf(class, part int) api.Table {
	counts, values := lumaFirst, firstValues
	switch {
	case class == 0 && part != 0:
		counts = colorFirst
	case class != 0 && part == 0:
		counts, values = lumaOther, lumaValues
	case class != 0:
		counts, values = colorOther, colorValues
	}
	t := api.Table{Counts: [16]int(parted(counts, 10))}
	for _, n := range parted(values, 16) {
		t.Values = append(t.Values, byte(n))
	}
	return t
}

func isSame(a, b api.Table) bool {
	return a.Counts == b.Counts && slices.Equal(a.Values, b.Values)
}

// places are numbers of a class, or a part: the first, and others, below 0 and far beyond too.
func places() []int {
	return []int{0, 1, 2, 3, 4, 15, 16, 255, 256, 65536, 1 << 32, 1 << 62, -1, -2, -16, -256, -1 << 32, math.MaxInt, math.MinInt}
}

func TestStandardIsTheChapters(t *testing.T) {
	for _, class := range places() {
		for _, part := range places() {
			if got, want := Standard(class, part), standardOf(class, part); !isSame(got, want) {
				t.Errorf("Standard(%d, %d) is %v, not %v", class, part, got, want)
			}
		}
	}
}

func TestStandardCounts(t *testing.T) {
	for i, a := range standardTables() {
		want := []int{12, 12, 162, 162}[i]
		if len(a.Values) != want || cap(a.Values) != want {
			t.Errorf("%s has %d values, with room for %d", a.name, len(a.Values), cap(a.Values))
		}
	}
}

// A block's codes are of these alone: the end, sixteen noughts, and each run of noughts with each size.
func TestStandardHasAllThatABlockNeeds(t *testing.T) {
	for _, part := range []int{0, 1} {
		first, other := Codes(Standard(0, part)), Codes(Standard(1, part))
		for n := range 256 {
			size, run := n&15, n>>4
			if has := first[n].N > 0; has != (n <= 11) {
				t.Errorf("part %d: a code of the first numbers' size %d: %v", part, n, has)
			}
			if has := other[n].N > 0; has != (size >= 1 && size <= 10 || size == 0 && (run == 0 || run == 15)) {
				t.Errorf("part %d: a code of %x: %v", part, n, has)
			}
		}
	}
}
