package huff

import (
	"slices"
	"testing"

	"cyanotype/api"
	"cyanotype/sec"
)

// askAll calls all that takes a table.
func askAll(t api.Table) {
	Check(t)
	Codes(t)
	for _, n := range []int{-1, 0, 1, 11, 255, 256, 40000, 65535} {
		Find(t, n)
		FindSec(t, sec.Of(n))
		CodeSec(t, sec.Of(n))
	}
}

// Neither values, nor what lies behind them in their memory, is changed.
func TestTablesAreNotChanged(t *testing.T) {
	for _, a := range slices.Concat(goodTables(t), badTables(t)) {
		memory := append(slices.Clone(a.Values), 1, 2, 3, 4)
		was := slices.Clone(memory)
		askAll(api.Table{Counts: a.Counts, Values: memory[:len(a.Values)]})
		if !slices.Equal(memory, was) {
			t.Fatalf("%s: the values are changed", a.name)
		}
	}
}

// A table that was asked of is not kept: with other values it is another one.
func TestTablesAreNotKept(t *testing.T) {
	for _, class := range []int{0, 1} {
		table := Standard(class, 0)
		askAll(table)
		slices.Reverse(table.Values)
		if Codes(table) != codesOf(table) {
			t.Fatal("codes of values that it no longer has")
		}
		want := foundOf(table)
		for bits := 0; bits < 65536; bits += 97 {
			if pair(Find(table, bits)) != want[bits] || opened(FindSec(table, sec.Of(bits))) != want[bits] {
				t.Fatal("values that it no longer has are found")
			}
		}
		table.Values[0] = table.Values[1]
		if Check(table) || Codes(table) != ([256]api.Code{}) {
			t.Fatal("what it was is Checked, not what it is")
		}
	}
}

// What Standard told may be changed: nothing it tells later is.
func TestStandardIsNewMemory(t *testing.T) {
	for _, class := range []int{0, 1, 2} {
		for _, part := range []int{0, 1, 2} {
			one, two := Standard(class, part), Standard(class, part)
			for i := range one.Values {
				one.Values[i] ^= 0xff
			}
			one.Counts[3] = 99
			_ = append(one.Values[:0], 1, 2, 3)
			if !isSame(two, standardOf(class, part)) {
				t.Errorf("Standard(%d, %d): what was told ahead is changed", class, part)
			}
			for _, c := range []int{0, 1} {
				for _, p := range []int{0, 1} {
					if !isSame(Standard(c, p), standardOf(c, p)) {
						t.Errorf("Standard(%d, %d) is changed by Standard(%d, %d)", c, p, class, part)
					}
				}
			}
		}
	}
}

func TestCodesAreNewMemory(t *testing.T) {
	for _, a := range standardTables() {
		one, two := Codes(a.Table), Codes(a.Table)
		for i := range one {
			one[i] = api.Code{N: 7, V: 7}
		}
		if two != codesOf(a.Table) || Codes(a.Table) != codesOf(a.Table) {
			t.Errorf("%s: codes are changed from outside", a.name)
		}
	}
}

// A list that is nil and one that is empty are the same thing.
func TestNilAndEmptyValues(t *testing.T) {
	for _, counts := range [][16]int{{}, {1}, {-1}, {15: 256}} {
		none, empty := api.Table{Counts: counts}, api.Table{Counts: counts, Values: []byte{}}
		if Check(none) != Check(empty) || Codes(none) != Codes(empty) {
			t.Errorf("of %v nil and empty differ", counts)
		}
		for _, n := range []int{-1, 0, 1, 255, 256, 65535} {
			if pair(Find(none, n)) != pair(Find(empty, n)) || opened(FindSec(none, sec.Of(n))) != opened(FindSec(empty, sec.Of(n))) || opened(CodeSec(none, sec.Of(n))) != opened(CodeSec(empty, sec.Of(n))) {
				t.Errorf("of %v nil and empty differ at %d", counts, n)
			}
		}
	}
	if !Check(api.Table{}) || !Check(api.Table{Values: []byte{}}) {
		t.Error("a table without values is refused")
	}
}
