package optim

import (
	"math"
	"slices"
	"testing"

	"cyanotype/api"
	"cyanotype/huff"
)

// Neither a list, nor what lies behind it in its memory, is changed, or read.
func TestListsAreNotChanged(t *testing.T) {
	eachList(t, func(t *testing.T, a asked) {
		memory := append(slices.Clone(a.often), 9, most, -4, math.MaxInt)
		was := slices.Clone(memory)
		list := memory[:len(a.often)]
		if !slices.Equal(Sizes(list), Sizes(a.often)) || !isSame(Best(list), Best(a.often)) {
			t.Error("what lies behind it is read")
		}
		if Cost(huff.Standard(1, 0), list) != Cost(huff.Standard(1, 0), a.often) {
			t.Error("what lies behind it has a cost")
		}
		if !slices.Equal(memory, was) {
			t.Error("it is changed")
		}
	})
}

func TestTablesAreNotChanged(t *testing.T) {
	for _, table := range slices.Concat(standards(), unchecked(), []api.Table{wide(), Best(deepest())}) {
		memory := append(slices.Clone(table.Values), 1, 2, 3)
		was := slices.Clone(memory)
		list := rising(12)
		if Cost(api.Table{Counts: table.Counts, Values: memory[:len(table.Values)]}, list) != Cost(table, list) {
			t.Errorf("what lies behind the values of %v is read", table)
		}
		if !slices.Equal(memory, was) {
			t.Errorf("%v is changed", table)
		}
	}
}

// What was asked of is not kept: changed, it is another list, or another table.
func TestNothingIsKept(t *testing.T) {
	list := rising(40)
	sizes, best := Sizes(list), Best(list)
	wantSizes, wantBest := slices.Clone(sizes), api.Table{Counts: best.Counts, Values: slices.Clone(best.Values)}
	slices.Reverse(list)
	list[7] = 1000
	if !slices.Equal(sizes, wantSizes) || !isSame(best, wantBest) {
		t.Error("what was told is changed by the list")
	}
	if want, _, _ := sizesOf(list); !slices.Equal(Sizes(list), want) || !isSame(Best(list), bestOf(list)) {
		t.Error("the list that it was is told of")
	}
	table := huff.Standard(0, 0)
	Cost(table, rising(12))
	slices.Reverse(table.Values)
	if got, want := Cost(table, rising(12)), costOf(table, rising(12)); got != want {
		t.Errorf("Cost of a table that was changed: %d, not %d", got, want)
	}
}

// What was told may be changed: nothing that is told beside it, or later, is.
func TestAnswersAreNewMemory(t *testing.T) {
	for _, list := range [][]int{nil, {5, 1}, alike(1, 256), rising(300), deepest(), at(255, 3)} {
		wantSizes, _, _ := sizesOf(list)
		wantBest := bestOf(list)
		oneSizes, twoSizes := Sizes(list), Sizes(list)
		oneBest, twoBest := Best(list), Best(list)
		for i := range oneSizes {
			oneSizes[i] = -9
		}
		_ = append(oneSizes[:0], 1, 2, 3)
		for i := range oneBest.Values {
			oneBest.Values[i] ^= 0xff
		}
		_ = append(oneBest.Values, 7, 7, 7)
		oneBest.Counts[0] = 99
		if !slices.Equal(twoSizes, wantSizes) || !slices.Equal(Sizes(list), wantSizes) {
			t.Errorf("Sizes of %v are changed from outside", list)
		}
		if !isSame(twoBest, wantBest) || !isSame(Best(list), wantBest) {
			t.Errorf("Best of %v is changed from outside", list)
		}
	}
}

// Nothing lies behind what is told.
func TestNothingBehindAnswers(t *testing.T) {
	eachList(t, func(t *testing.T, a asked) {
		sizes, values := Sizes(a.often), Best(a.often).Values
		for _, n := range sizes[len(sizes):cap(sizes)] {
			if n != 0 {
				t.Error("a size behind the 256th")
			}
		}
		for _, n := range values[len(values):cap(values)] {
			if n != 0 {
				t.Error("a value behind the last")
			}
		}
	})
}

// A list that is nil and one that is empty are the same thing.
func TestNilAndEmpty(t *testing.T) {
	if !slices.Equal(Sizes(nil), Sizes([]int{})) || !isSame(Best(nil), Best([]int{})) {
		t.Error("of nil and empty sizes differ")
	}
	for _, table := range append(slices.Concat(standards(), unchecked()), api.Table{}, api.Table{Values: []byte{}}) {
		if Cost(table, nil) != 0 || Cost(table, []int{}) != 0 {
			t.Errorf("nothing has a cost by %v", table)
		}
	}
	for _, list := range [][]int{nil, {0}, {1}, at(255, 1)} {
		if Cost(api.Table{}, list) != Cost(api.Table{Values: []byte{}}, list) {
			t.Errorf("of nil and empty values costs of %v differ", list)
		}
	}
}
