package huff

import (
	"strings"
	"testing"

	"cyanotype/api"
)

func TestCodesWrittenOut(t *testing.T) {
	for _, c := range []struct {
		class, part int
		value       byte
		bits        string
	}{
		{0, 0, 0, "00"}, {0, 0, 1, "010"}, {0, 0, 5, "110"}, {0, 0, 6, "1110"}, {0, 0, 11, "111111110"},
		{0, 1, 0, "00"}, {0, 1, 2, "10"}, {0, 1, 3, "110"}, {0, 1, 11, "11111111110"},
		{1, 0, 0x00, "1010"}, {1, 0, 0x01, "00"}, {1, 0, 0x02, "01"}, {1, 0, 0x03, "100"}, {1, 0, 0x11, "1100"}, {1, 0, 0xf0, "11111111001"}, {1, 0, 0x82, "111111111000000"}, {1, 0, 0xfa, "1111111111111110"},
		{1, 1, 0x00, "00"}, {1, 1, 0x01, "01"}, {1, 1, 0x02, "100"}, {1, 1, 0x11, "1011"}, {1, 1, 0xf0, "1111111010"}, {1, 1, 0xe1, "11111111100000"}, {1, 1, 0xfa, "1111111111111110"},
	} {
		if got := bitsOf(Codes(Standard(c.class, c.part))[c.value]); got != c.bits {
			t.Errorf("the code of %x in Standard(%d, %d) is %s, not %s", c.value, c.class, c.part, got, c.bits)
		}
	}
	if got := Codes(Standard(0, 0)); got[0] != (api.Code{N: 2, V: 0}) || got[11] != (api.Code{N: 9, V: 510}) || got[12] != (api.Code{}) || got[255] != (api.Code{}) {
		t.Errorf("Codes of Standard(0, 0): %v", got)
	}
}

func wantCodes(t *testing.T, a asked) {
	t.Helper()
	got, want := Codes(a.Table), codesOf(a.Table)
	for value := range want {
		if got[value] != want[value] {
			t.Fatalf("%s: the code of %d is %v, not %v", a.name, value, got[value], want[value])
		}
	}
}

func TestCodesAgainstTheWords(t *testing.T) {
	for _, a := range goodTables(t) {
		wantCodes(t, a)
	}
}

func TestCodesOfAnyCounts(t *testing.T) {
	for seed := range 2000 {
		wantCodes(t, drawn(seed))
	}
}

func TestCodesOfOneValue(t *testing.T) {
	for n := 1; n <= 16; n++ {
		for value := range 256 {
			table := api.Table{Values: []byte{byte(value)}}
			table.Counts[n-1] = 1
			var want [256]api.Code
			want[value].N = n
			if got := Codes(table); got != want {
				t.Fatalf("%d alone, of length %d: %v", value, n, got)
			}
		}
	}
}

func TestCodesOfWhatIsNotChecked(t *testing.T) {
	for _, a := range badTables(t) {
		if got := Codes(a.Table); got != ([256]api.Code{}) {
			t.Errorf("%s has codes: %v", a.name, got)
		}
	}
}

func TestCodesOfNone(t *testing.T) {
	if Codes(api.Table{}) != ([256]api.Code{}) || Codes(api.Table{Values: []byte{}}) != ([256]api.Code{}) {
		t.Error("a table of nothing has codes")
	}
}

// No code begins another one, and none is of ones alone.
func TestNoCodeBeginsAnother(t *testing.T) {
	for _, a := range goodTables(t) {
		var told []string
		for _, c := range Codes(a.Table) {
			if c.N > 0 {
				told = append(told, bitsOf(c))
			}
		}
		if len(told) != len(a.Values) {
			t.Fatalf("%s: %d codes of %d values", a.name, len(told), len(a.Values))
		}
		for i, one := range told {
			if !strings.Contains(one, "0") || len(one) > 16 {
				t.Fatalf("%s: a code is %s", a.name, one)
			}
			for j, other := range told {
				if i != j && strings.HasPrefix(other, one) {
					t.Fatalf("%s: %s begins %s", a.name, one, other)
				}
			}
		}
	}
}
