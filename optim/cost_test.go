package optim

import (
	"math"
	"slices"
	"testing"

	"cyanotype/api"
	"cyanotype/huff"
)

// costOf is what the chapter asks of Cost, told by the counts of a table: each value has the length that it stands at.
func costOf(t api.Table, often []int) int {
	var lengths [256]int
	if huff.Check(t) {
		at := 0
		for i, many := range t.Counts {
			for range many {
				lengths[t.Values[at]] = i + 1
				at++
			}
		}
	}
	sum := 0
	for value, many := range comesOf(often) {
		if many > 0 && lengths[value] == 0 {
			return -1
		}
		sum += many * lengths[value]
	}
	return sum
}

func standards() []api.Table {
	return []api.Table{huff.Standard(0, 0), huff.Standard(0, 1), huff.Standard(1, 0), huff.Standard(1, 1)}
}

// wide has a code of all values, most of them of sixteen bits.
func wide() api.Table {
	t := api.Table{Counts: [16]int{14: 1, 15: 255}}
	for value := range 256 {
		t.Values = append(t.Values, byte(255-value))
	}
	return t
}

// unchecked are tables that may not be.
func unchecked() []api.Table {
	return []api.Table{
		{Counts: [16]int{1}},
		{Values: []byte{0}},
		{Counts: [16]int{2}, Values: []byte{0, 1}},
		{Counts: [16]int{3}, Values: []byte{0, 1, 2}},
		{Counts: [16]int{0, 2}, Values: []byte{0, 1, 2}},
		{Counts: [16]int{0, 3}, Values: []byte{0, 1}},
		{Counts: [16]int{0, 2}, Values: []byte{1, 1}},
		{Counts: [16]int{0, 4}, Values: []byte{0, 1, 2, 3}},
		{Counts: [16]int{7: 3, 8: -1}, Values: []byte{0, 1}},
		{Counts: [16]int{15: 256}, Values: wide().Values},
		{Counts: [16]int{15: math.MaxInt}, Values: wide().Values},
	}
}

func TestCostWrittenOut(t *testing.T) {
	for _, c := range []struct {
		table api.Table
		often []int
		want  int
	}{
		{Best([]int{5, 1}), []int{5, 1}, 7},
		{Best([]int{5, 1}), []int{1, 5}, 11},
		{Best([]int{5, 1}), []int{0, 3}, 6},
		{Best([]int{5, 1}), []int{-5, 3, 0, -1}, 6},
		{Best([]int{5, 1}), []int{1, 1, 1}, -1},
		{Best([]int{5, 1}), nil, 0},
		{huff.Standard(0, 0), alike(1, 12), 56},
		{huff.Standard(0, 0), alike(1, 13), -1},
		{huff.Standard(0, 1), at(11, 9), 99},
		{huff.Standard(1, 0), at(0, 2, 1, 3, 0xfa, 1), 2*4 + 3*2 + 16},
		{huff.Standard(1, 1), at(0xf0, most), 10 * most},
		{huff.Standard(1, 1), at(0xf0, most+1), 10 * most},
		{huff.Standard(1, 1), at(0xf0, math.MaxInt, 0, 1), 10*most + 2},
		{huff.Standard(1, 1), at(0xf0, math.MinInt, 0, 1), 2},
		{huff.Standard(1, 0), at(0x10, 1), -1},
		{huff.Standard(1, 0), at(0x10, -1), 0},
		{api.Table{}, nil, 0},
		{api.Table{}, []int{1}, -1},
		{api.Table{}, at(255, 1), -1},
		{wide(), alike(1, 256), 15 + 255*16},
		{wide(), alike(math.MaxInt, 256), (15 + 255*16) << 20},
		{wide(), at(255, 1), 15},
		{wide(), at(254, 1), 16},
		{wide(), at(256, 1), 0},
		{wide(), at(255, 1, 256, 1, 257, most), 15},
		{huff.Standard(0, 0), at(0, 1, 256, 1), 2},
	} {
		if got := Cost(c.table, c.often); got != c.want {
			t.Errorf("Cost of %v, %v: %d, not %d", c.table, c.often, got, c.want)
		}
	}
}

// Each list by its own table, by one of another list, and by others.
func TestCostAgainstTheWords(t *testing.T) {
	other := Best(nil)
	tables := append(standards(), wide(), api.Table{}, Best(alike(1, 256)), Best(rising(256)), Best(deepest()))
	eachList(t, func(t *testing.T, a asked) {
		own := Best(a.often)
		for _, table := range append(slices.Clone(tables), own, other) {
			if got, want := Cost(table, a.often), costOf(table, a.often); got != want {
				t.Errorf("Cost of %v: %d, not %d", table, got, want)
			}
		}
		other = own
	})
}

// By its own table a list has no cost of -1; no value has a code of less than a bit, nor of more than 16.
func TestCostByItsOwn(t *testing.T) {
	eachList(t, func(t *testing.T, a asked) {
		sum := 0
		for _, many := range comesOf(a.often) {
			sum += many
		}
		if got := Cost(Best(a.often), a.often); got < sum || got > 16*sum {
			t.Errorf("Cost of %d by its own table: %d", sum, got)
		}
	})
}

// Each value that a table has no code of, whether it comes or not.
func TestCostWithoutACode(t *testing.T) {
	for _, table := range append(standards(), Best([]int{5, 1}), Best(at(255, 1)), api.Table{}) {
		codes := huff.Codes(table)
		for value := range 256 {
			want := codes[value].N
			if want == 0 {
				want = -1
			}
			if got := Cost(table, at(value, 1)); got != want {
				t.Fatalf("Cost of one %d: %d, not %d", value, got, want)
			}
			if got := Cost(table, append(alike(0, 256+value), 1)); got != 0 {
				t.Fatalf("Cost of one %d: %d", 256+value, got)
			}
			for _, many := range []int{0, -1, math.MinInt} {
				if got := Cost(table, at(value, many)); got != 0 {
					t.Fatalf("Cost of %d times %d: %d", many, value, got)
				}
			}
			// One without a code is enough, wherever it stands among those that have one.
			with := make([]int, 256)
			for i, code := range codes {
				with[i] = code.N
			}
			with[value] = 1
			if got := Cost(table, with); (got == -1) != (codes[value].N == 0) {
				t.Fatalf("Cost of all, and one %d: %d", value, got)
			}
		}
	}
}

// A table that may not be has no codes: only what does not come costs nothing by it.
func TestCostOfWhatIsNotChecked(t *testing.T) {
	for _, table := range unchecked() {
		if huff.Check(table) {
			t.Fatalf("%v is Checked", table)
		}
		for _, a := range noneLists() {
			if got := Cost(table, a.often); got != 0 {
				t.Errorf("Cost of %v, %s: %d", table, a.name, got)
			}
		}
		for value := range 256 {
			if got := Cost(table, at(value, 1)); got != -1 {
				t.Errorf("Cost of %v, of one %d: %d", table, value, got)
			}
		}
		for _, often := range [][]int{{5, 1}, {1}, rising(256), rising(300), alike(most, 256), {0, math.MaxInt}} {
			if got := Cost(table, often); got != -1 {
				t.Errorf("Cost of %v, %v: %d", table, often, got)
			}
		}
	}
}
