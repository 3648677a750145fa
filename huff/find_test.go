package huff

import (
	"strings"
	"testing"
)

func TestFindWrittenOut(t *testing.T) {
	for _, c := range []struct {
		class, part int
		bits        int
		want        [2]int
	}{
		{0, 0, 0, [2]int{0, 2}}, {0, 0, 0x3fff, [2]int{0, 2}}, {0, 0, 0x4000, [2]int{1, 3}}, {0, 0, 0xdfff, [2]int{5, 3}}, {0, 0, 0xe000, [2]int{6, 4}},
		{0, 0, 0xff00, [2]int{11, 9}}, {0, 0, 0xff7f, [2]int{11, 9}}, {0, 0, 0xff80, [2]int{0, 0}}, {0, 0, 0xffff, [2]int{0, 0}},
		{1, 0, 0xa123, [2]int{0x00, 4}}, {1, 0, 0xfffe, [2]int{0xfa, 16}}, {1, 0, 0xffff, [2]int{0, 0}}, {1, 0, 0xff3f, [2]int{0xf0, 11}},
		{1, 1, 0x0000, [2]int{0x00, 2}}, {1, 1, 0xfebf, [2]int{0xf0, 10}}, {1, 1, 0xfffe, [2]int{0xfa, 16}},
	} {
		if got := pair(Find(Standard(c.class, c.part), c.bits)); got != c.want {
			t.Errorf("Find of %x in Standard(%d, %d) is %v, not %v", c.bits, c.class, c.part, got, c.want)
		}
	}
}

// All sixteens of bits, in each of the tables, and some numbers that are none.
func TestFindAgainstTheWords(t *testing.T) {
	for _, a := range someTables(t) {
		want := foundOf(a.Table)
		for bits := -1000; bits < 65536+1000; bits++ {
			if got := pair(Find(a.Table, bits)); got != foundIn(want, bits) {
				t.Fatalf("%s: Find of %x is %v, not %v", a.name, bits, got, foundIn(want, bits))
			}
		}
	}
}

// The first and the last sixteen of each code, and what is beside them, in more tables.
func TestFindAtEnds(t *testing.T) {
	for _, a := range goodTables(t) {
		want := foundOf(a.Table)
		for _, s := range shares(a.Table) {
			for _, bits := range []int{s.from - 1, s.from, (s.from + s.to) / 2, s.to - 1, s.to} {
				if got := pair(Find(a.Table, bits)); got != foundIn(want, bits) {
					t.Fatalf("%s: Find of %x is %v, not %v", a.name, bits, got, foundIn(want, bits))
				}
			}
		}
	}
}

// A code's bits lead to its value, whatever is behind them.
func TestFindOfCodes(t *testing.T) {
	for _, a := range goodTables(t) {
		for value, c := range Codes(a.Table) {
			if c.N == 0 {
				continue
			}
			for _, fill := range []string{"0", "1", "10", "01"} {
				bits := 0
				for _, one := range (bitsOf(c) + strings.Repeat(fill, 16))[:16] {
					bits = 2*bits + int(one-'0')
				}
				if got := pair(Find(a.Table, bits)); got != [2]int{value, c.N} {
					t.Fatalf("%s: the code of %d leads to %v", a.name, value, got)
				}
			}
		}
	}
}

func TestFindBeyond(t *testing.T) {
	for _, a := range goodTables(t) {
		for _, bits := range beyond() {
			if got := pair(Find(a.Table, bits)); got != [2]int{} {
				t.Fatalf("%s: Find of %d is %v", a.name, bits, got)
			}
		}
	}
}

func TestFindInWhatIsNotChecked(t *testing.T) {
	for _, a := range badTables(t) {
		for bits := 0; bits < 65536; bits += 251 {
			if got := pair(Find(a.Table, bits)); got != [2]int{} {
				t.Fatalf("%s: Find of %x is %v", a.name, bits, got)
			}
		}
		for _, bits := range append(beyond(), 0, 1, 32767, 32768, 65534, 65535) {
			if got := pair(Find(a.Table, bits)); got != [2]int{} {
				t.Fatalf("%s: Find of %d is %v", a.name, bits, got)
			}
		}
	}
}

// In a table of nothing there is nothing, of any bits.
func TestFindInNone(t *testing.T) {
	none := otherTables()[0]
	for bits := range 65536 {
		if got := pair(Find(none.Table, bits)); got != [2]int{} {
			t.Fatalf("Find of %x is %v", bits, got)
		}
	}
}
