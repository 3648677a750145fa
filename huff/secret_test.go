package huff

import (
	"testing"

	"cyanotype/sec"
)

// All sixteens of bits, in each of the tables, and some numbers that are none.
func TestFindSecIsFind(t *testing.T) {
	for _, a := range someTables(t) {
		want := foundOf(a.Table)
		for bits := -1000; bits < 65536+1000; bits++ {
			got := opened(FindSec(a.Table, sec.Of(bits)))
			if got != foundIn(want, bits) || got != pair(Find(a.Table, bits)) {
				t.Fatalf("%s: FindSec of %x is %v, not %v", a.name, bits, got, foundIn(want, bits))
			}
		}
	}
}

// The first and the last of each code, and what is beside them.
func TestFindSecAtEnds(t *testing.T) {
	for _, a := range goodTables(t) {
		for _, s := range shares(a.Table) {
			for _, bits := range []int{s.from - 1, s.from, (s.from + s.to) / 2, s.to - 1, s.to} {
				if got, want := opened(FindSec(a.Table, sec.Of(bits))), pair(Find(a.Table, bits)); got != want {
					t.Fatalf("%s: FindSec of %x is %v, not %v", a.name, bits, got, want)
				}
			}
		}
	}
}

func TestFindSecBeyond(t *testing.T) {
	for _, a := range goodTables(t) {
		for _, bits := range beyond() {
			if got := opened(FindSec(a.Table, sec.Of(bits))); got != [2]int{} {
				t.Fatalf("%s: FindSec of %d is %v", a.name, bits, got)
			}
		}
	}
}

func TestFindSecInWhatIsNotChecked(t *testing.T) {
	for _, a := range badTables(t) {
		for _, bits := range append(beyond(), 0, 1, 2, 100, 16383, 16384, 32767, 32768, 49152, 65533, 65534, 65535) {
			if got := opened(FindSec(a.Table, sec.Of(bits))); got != [2]int{} {
				t.Fatalf("%s: FindSec of %d is %v", a.name, bits, got)
			}
		}
	}
}

// CodeSec tells a code's number first, and its length behind it.
func TestCodeSecIsCodes(t *testing.T) {
	for _, a := range goodTables(t) {
		codes, want := Codes(a.Table), codesOf(a.Table)
		for value := range 256 {
			got := opened(CodeSec(a.Table, sec.Of(value)))
			if got != [2]int{want[value].V, want[value].N} || got != [2]int{codes[value].V, codes[value].N} {
				t.Fatalf("%s: CodeSec of %d is %v, not %v", a.name, value, got, want[value])
			}
		}
	}
}

func TestCodeSecWrittenOut(t *testing.T) {
	for value, want := range map[int][2]int{0: {0, 2}, 1: {2, 3}, 5: {6, 3}, 11: {510, 9}, 12: {0, 0}, 255: {0, 0}, 256: {0, 0}, -1: {0, 0}} {
		if got := opened(CodeSec(Standard(0, 0), sec.Of(value))); got != want {
			t.Errorf("CodeSec of %d is %v, not %v", value, got, want)
		}
	}
}

func TestCodeSecBeyond(t *testing.T) {
	near := beyond()
	for n := range 300 {
		near = append(near, 256+n, -1-n, 1<<16+n, 1<<32+n, -1<<16+n, -1<<32+n)
	}
	for _, a := range append(standardTables(), fullTables()...) {
		for _, value := range near {
			if got := opened(CodeSec(a.Table, sec.Of(value))); got != [2]int{} {
				t.Fatalf("%s: CodeSec of %d is %v", a.name, value, got)
			}
		}
	}
}

func TestCodeSecInWhatIsNotChecked(t *testing.T) {
	for _, a := range badTables(t) {
		for _, value := range append(beyond(), 0, 1, 2, 11, 91, 127, 128, 255) {
			if got := opened(CodeSec(a.Table, sec.Of(value))); got != [2]int{} {
				t.Fatalf("%s: CodeSec of %d is %v", a.name, value, got)
			}
		}
	}
}

// There and back, by secrets alone: a value's code, laid at the front of sixteen bits, is found again.
func TestSecretsThereAndBack(t *testing.T) {
	for _, a := range goodTables(t) {
		for _, value := range a.Values {
			v, n := CodeSec(a.Table, sec.Of(int(value)))
			length := n.Open(nil)
			if got := opened(FindSec(a.Table, v.Shl(16-length))); got != [2]int{int(value), length} {
				t.Fatalf("%s: %d comes back as %v", a.name, value, got)
			}
		}
	}
}

// A word that was never laid holds 0.
func TestSecretsOfNoughts(t *testing.T) {
	for _, a := range goodTables(t) {
		if got, want := opened(FindSec(a.Table, sec.Sec{})), pair(Find(a.Table, 0)); got != want {
			t.Errorf("%s: FindSec of 0 is %v, not %v", a.name, got, want)
		}
		if got, want := opened(CodeSec(a.Table, sec.Sec{})), codesOf(a.Table)[0]; got != [2]int{want.V, want.N} {
			t.Errorf("%s: CodeSec of 0 is %v, not %v", a.name, got, want)
		}
	}
}
