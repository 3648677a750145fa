package bits

import (
	"math"
	"slices"
	"testing"

	"cyanotype/api"
)

func wantPack(t *testing.T, l []api.Code) {
	t.Helper()
	want, wantMany := packed(t, l)
	if got, many := Pack(l); !slices.Equal(got, want) || many != wantMany {
		t.Fatalf("Pack of %v: %x, %d, not %x, %d", l, got, many, want, wantMany)
	}
}

func TestPackWrittenOut(t *testing.T) {
	for _, c := range []struct {
		l    []api.Code
		want []byte
		many int
	}{
		{[]api.Code{{N: 3, V: 5}}, []byte{0xbf}, 3},
		{[]api.Code{{N: 8, V: 0}}, []byte{0x00}, 8},
		{[]api.Code{{N: 9, V: 0}}, []byte{0x00, 0x7f}, 9},
		{[]api.Code{{N: 1, V: 0}}, []byte{0x7f}, 1},
		{[]api.Code{{N: 1, V: 1}}, []byte{0xff}, 1},
		{[]api.Code{{N: 7, V: 0}}, []byte{0x01}, 7},
		{[]api.Code{{N: 2, V: 0}, {N: 4, V: 10}}, []byte{0x2b}, 6},
		{[]api.Code{{N: 4, V: 10}, {N: 2, V: 0}}, []byte{0xa3}, 6},
		{[]api.Code{{N: 5, V: 1}, {N: 6, V: 1}}, []byte{0x08, 0x3f}, 11},
		{[]api.Code{{N: 16, V: 0x1234}, {N: 8, V: 0x56}}, []byte{0x12, 0x34, 0x56}, 24},
		{[]api.Code{{N: 4, V: 1}, {N: 16, V: 0x2345}, {N: 4, V: 6}}, []byte{0x12, 0x34, 0x56}, 24},
		{[]api.Code{{N: 8, V: 0x1ff12}}, []byte{0x12}, 8},
		{[]api.Code{{N: 8, V: -2}}, []byte{0xfe}, 8},
		{[]api.Code{{N: 8, V: -256}}, []byte{0x00}, 8},
		{[]api.Code{{N: 4, V: -6}}, []byte{0xaf}, 4},
		{[]api.Code{{N: 31, V: 1}}, []byte{0x00, 0x00, 0x00, 0x03}, 31},
		{[]api.Code{{N: 32, V: 1}}, []byte{0x00, 0x00, 0x00, 0x01}, 32},
		{[]api.Code{{N: 33, V: 1}}, []byte{0x00, 0x00, 0x00, 0x01}, 32},
		{[]api.Code{{N: 40, V: 0x7fedcba987}}, []byte{0xed, 0xcb, 0xa9, 0x87}, 32},
		{[]api.Code{{N: math.MaxInt, V: math.MinInt}}, []byte{0x00, 0x00, 0x00, 0x00}, 32},
		{[]api.Code{{N: math.MinInt, V: -1}}, nil, 0},
		{[]api.Code{{N: -1, V: 7}, {N: 2, V: 1}, {N: 0, V: 7}}, []byte{0x7f}, 2},
		{[]api.Code{{}, {}, {}}, nil, 0},
		{nil, nil, 0},
		{[]api.Code{}, nil, 0},
	} {
		if got, many := Pack(c.l); !slices.Equal(got, c.want) || many != c.many {
			t.Errorf("Pack of %v: %x, %d, not %x, %d", c.l, got, many, c.want, c.many)
		}
	}
}

func TestPackAgainstTheWords(t *testing.T) {
	for _, l := range codeLists() {
		wantPack(t, l)
	}
}

// Codes of each length that begin at each place of a byte, and have others behind them.
func TestPackAtEachPlace(t *testing.T) {
	for ahead := range 17 {
		for _, n := range lengths() {
			for _, v := range numbers() {
				for _, first := range []int{0, -1, 0x15a} {
					wantPack(t, []api.Code{{N: ahead, V: first}, {N: n, V: v}})
				}
				wantPack(t, []api.Code{{N: ahead, V: 0}, {N: n, V: v}, {N: 7, V: 0}})
			}
		}
	}
}

// Each bit of a code by itself is laid at its own place.
func TestPackOfOneBit(t *testing.T) {
	for n := 1; n <= 32; n++ {
		for less := range 64 {
			got, many := Pack([]api.Code{{N: n, V: 1 << less}})
			s := bytesText(got)
			for i, bit := range s {
				want := '0'
				if i >= n || n-1-i == less {
					want = '1'
				}
				if bit != want {
					t.Fatalf("bit %d of %d, 2^%d, is %c: %s", i, n, less, bit, s)
				}
			}
			if many != n || len(s) != (n+7)/8*8 {
				t.Fatalf("%d bits, told as %d, in %s", n, many, s)
			}
		}
	}
}

// As few bytes as have room, for each number of bits, and ones behind the last one, whatever that is.
func TestPackHasNoByteTooMany(t *testing.T) {
	var l []api.Code
	for n := 1; n <= 300; n++ {
		l = append(l, api.Code{N: 1, V: n / 3 % 2})
		got, many := Pack(l)
		if many != n || len(got)*8 < n || len(got)*8 >= n+8 {
			t.Fatalf("%d bits, told as %d, in %d bytes", n, many, len(got))
		}
		for i, bit := range bytesText(got) {
			if i >= n && bit != '1' {
				t.Fatalf("behind %d bits there is a nought", n)
			}
		}
		wantPack(t, l)
	}
}

// A code of no bits changes nothing, wherever it stands, whatever its number is.
func TestPackOfCodesWithoutBits(t *testing.T) {
	for seed := range 50 {
		d := newDrawer(seed)
		var with, without []api.Code
		for range 60 {
			one := api.Code{N: 1 + d.below(20), V: d.any()}
			with = append(with, one, api.Code{N: -d.below(3) * d.below(1<<40), V: d.any()})
			without = append(without, one)
		}
		want, wantMany := Pack(without)
		if got, many := Pack(with); !slices.Equal(got, want) || many != wantMany {
			t.Fatalf("%v: %x, %d, not %x, %d", with, got, many, want, wantMany)
		}
	}
}

// A row of as many bits as the limits know.
func TestPackOfMany(t *testing.T) {
	l := make([]api.Code, api.MaxBits/32)
	for i := range l {
		l[i] = api.Code{N: 32, V: i * 2654435769}
	}
	got, many := Pack(l)
	if many != api.MaxBits || len(got) != api.MaxBits/8 {
		t.Fatalf("%d bits in %d bytes", many, len(got))
	}
	for i := range l {
		v := uint32(i * 2654435769)
		if want := []byte{byte(v >> 24), byte(v >> 16), byte(v >> 8), byte(v)}; !slices.Equal(got[4*i:4*i+4], want) {
			t.Fatalf("code %d is %x, not %x", i, got[4*i:4*i+4], want)
		}
	}
}

// Bits may be left ahead of their end.
func TestBitsAreLeftEarly(t *testing.T) {
	for most := 1; most < 11; most++ {
		var codes, stand []int
		for bit := range laid([]api.Code{{N: 5, V: 0x15}, {N: 0, V: 1}, {N: 6, V: 0x2c}}) {
			if codes = append(codes, bit); len(codes) == most {
				break
			}
		}
		for bit := range standing([]byte{0xad, 0x80, 0x12}, 0, 11) {
			if stand = append(stand, bit); len(stand) == most {
				break
			}
		}
		if want := []int{1, 0, 1, 0, 1, 1, 0, 1, 1, 0, 0}[:most]; !slices.Equal(codes, want) || !slices.Equal(stand, want) {
			t.Errorf("the first %d: %v, and %v, not %v", most, codes, stand, want)
		}
	}
}
