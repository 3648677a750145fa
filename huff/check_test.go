package huff

import (
	"slices"
	"testing"

	"cyanotype/api"
)

func TestCheckTakesTables(t *testing.T) {
	for _, a := range goodTables(t) {
		if !Check(a.Table) {
			t.Errorf("%s is not Checked", a.name)
		}
	}
}

func TestCheckRefuses(t *testing.T) {
	for _, a := range badTables(t) {
		if Check(a.Table) {
			t.Errorf("%s is Checked", a.name)
		}
	}
}

// As many as drawn: some are Checked, and some are not.
func TestCheckOfAnyCounts(t *testing.T) {
	good := 0
	for seed := range 5000 {
		a := drawn(seed)
		want := mayBe(a.Table)
		if want {
			good++
		}
		if Check(a.Table) != want {
			t.Fatalf("Check of %v: %v", a.Table, !want)
		}
	}
	if good < 500 || good > 4500 {
		t.Errorf("%d of 5000 drawn are Checked: too few, or too many, to tell", good)
	}
}

// Each count, one by one, at and beyond its ends; as many values as it says.
func TestCheckOfOneCount(t *testing.T) {
	for n := 1; n <= 16; n++ {
		for many := -3; many <= 260; many++ {
			want := many >= 0 && many <= 255 && many <= 1<<n-1
			if got := Check(counted("", map[int]int{n: many}).Table); got != want {
				t.Errorf("%d of length %d: %v", many, n, got)
			}
		}
	}
}

// The last code of each length that has not all ones, and the one behind it.
func TestCheckOfOnes(t *testing.T) {
	for n := 1; n <= 16; n++ {
		if !Check(counted("", chain(n, 1)).Table) {
			t.Errorf("a code of %d ones, but the last a nought, is refused", n)
		}
		if Check(counted("", chain(n, 2)).Table) {
			t.Errorf("a code of %d ones is taken", n)
		}
	}
}

// Each two places of values, the one's value at the other.
func TestCheckOfAValueTwice(t *testing.T) {
	good := Standard(1, 1)
	for i := range good.Values {
		for j := range good.Values {
			values := slices.Clone(good.Values)
			values[i] = values[j]
			if got := Check(api.Table{Counts: good.Counts, Values: values}); got != (i == j) {
				t.Fatalf("the value at %d stands at %d too: %v", j, i, got)
			}
		}
	}
}

// All the values that there are may stand in one table.
func TestCheckOf256Values(t *testing.T) {
	full := counted("", map[int]int{8: 255, 9: 1}).Table
	if len(full.Values) != 256 || !Check(full) {
		t.Error("256 values are refused")
	}
	one := full
	one.Counts[9]++
	one.Values = append(slices.Clone(full.Values), 7)
	if Check(one) {
		t.Error("257 values are taken")
	}
}

// What lies behind the values in their memory is none of them.
func TestCheckReadsNothingBehind(t *testing.T) {
	good := Standard(1, 0)
	more := append(slices.Clone(good.Values), 0xff, 0xfe, 0xfd)
	if !Check(api.Table{Counts: good.Counts, Values: more[:162]}) {
		t.Error("162 values, with more behind, are refused")
	}
	if Check(api.Table{Counts: good.Counts, Values: more[:161]}) || Check(api.Table{Counts: good.Counts, Values: more[:0]}) {
		t.Error("too few values, with more behind, are taken")
	}
	same := append(slices.Clone(good.Values), good.Values...)
	if !Check(api.Table{Counts: good.Counts, Values: same[:162]}) {
		t.Error("162 values, with the same behind, are refused")
	}
}
