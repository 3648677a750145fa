package bits

import (
	"math"
	"testing"

	"cyanotype/api"
)

func wantPeek(t *testing.T, b []byte, s string, at, n int) {
	t.Helper()
	want, wantIs := peeked(t, s, at, n)
	if got, is := Peek(b, at, n); got != want || is != wantIs {
		t.Fatalf("Peek of %x, %d, %d: %d, %v, not %d, %v", b, at, n, got, is, want, wantIs)
	}
}

func TestPeekWrittenOut(t *testing.T) {
	b := []byte{0xbf, 0x12, 0x34, 0x56, 0x78}
	for _, c := range []struct {
		b     []byte
		at, n int
		want  int
		is    bool
	}{
		{b, 0, 3, 5, true}, {b, 0, 8, 0xbf, true}, {b, 0, 1, 1, true}, {b, 1, 1, 0, true}, {b, 7, 2, 2, true}, {b, 4, 8, 0xf1, true},
		{b, 0, 32, 0xbf123456, true}, {b, 8, 32, 0x12345678, true}, {b, 4, 32, 0xf1234567, true}, {b, 9, 32, 0, false}, {b, 9, 31, 0x12345678, true}, {b, 10, 31, 0, false},
		{b, 0, 33, 0, false}, {b, 0, -1, 0, false}, {b, -1, 1, 0, false}, {b, -1, 0, 0, false}, {b, -8, 8, 0, false},
		{b, 0, 0, 0, true}, {b, 39, 0, 0, true}, {b, 40, 0, 0, true}, {b, 41, 0, 0, false}, {b, 39, 1, 0, true}, {b, 40, 1, 0, false}, {b, 38, 2, 0, true}, {b, 36, 4, 8, true}, {b, 36, 5, 0, false},
		{nil, 0, 0, 0, true}, {nil, 0, 1, 0, false}, {nil, 1, 0, 0, false}, {nil, -1, 0, 0, false}, {nil, -1, 1, 0, false}, {[]byte{}, 0, 0, 0, true}, {[]byte{}, 0, 1, 0, false},
		{[]byte{0xff, 0xff, 0xff, 0xff}, 0, 32, 1<<32 - 1, true}, {[]byte{0x80, 0, 0, 0}, 0, 32, 1 << 31, true},
		{b, math.MaxInt, 1, 0, false}, {b, math.MaxInt, 0, 0, false}, {b, math.MinInt, 0, 0, false}, {b, math.MinInt, 8, 0, false}, {b, 0, math.MaxInt, 0, false}, {b, 0, math.MinInt, 0, false},
		{b, math.MaxInt, math.MaxInt, 0, false}, {b, math.MinInt, math.MinInt, 0, false}, {b, math.MaxInt, math.MinInt, 0, false}, {b, math.MinInt, math.MaxInt, 0, false},
	} {
		if got, is := Peek(c.b, c.at, c.n); got != c.want || is != c.is {
			t.Errorf("Peek of %x, %d, %d: %d, %v, not %d, %v", c.b, c.at, c.n, got, is, c.want, c.is)
		}
	}
}

// All lengths at all places, of rows of each small length, and up to and beyond their end.
func TestPeekAgainstTheWords(t *testing.T) {
	for many := range 12 {
		for seed := range 8 {
			b := newDrawer(100*many + seed).bytes(many)
			s := bytesText(b)
			for at := -40; at <= len(s)+40; at++ {
				for n := -3; n <= 36; n++ {
					wantPeek(t, b, s, at, n)
				}
			}
		}
	}
}

// Places and lengths at the ends of what an int holds: whatever goes round, there is nothing.
func TestPeekFarOff(t *testing.T) {
	for _, many := range []int{0, 1, 4, 5, 100} {
		b := newDrawer(many).bytes(many)
		s := bytesText(b)
		for _, far := range ends() {
			for near := -3; near <= len(s)+3; near++ {
				wantPeek(t, b, s, far, near)
				wantPeek(t, b, s, near, far)
			}
			for _, other := range ends() {
				wantPeek(t, b, s, far, other)
			}
		}
	}
}

func TestPeekOfALongRow(t *testing.T) {
	b := newDrawer(7).bytes(3000)
	s := bytesText(b)
	for _, n := range []int{0, 1, 7, 8, 9, 16, 31, 32} {
		for at := 0; at <= len(s)+1; at++ {
			wantPeek(t, b, s, at, n)
		}
	}
}

// Each code that was packed stands at its place.
func TestPeekOfWhatWasPacked(t *testing.T) {
	for _, l := range codeLists() {
		b, many := Pack(l)
		at := 0
		for _, c := range l {
			s := codeText(c)
			if got, is := Peek(b, at, len(s)); got != valueOf(t, s) || !is {
				t.Fatalf("%v of %v, at %d: %d, %v", c, l, at, got, is)
			}
			at += len(s)
		}
		if at != many {
			t.Fatalf("%v have %d bits, not %d", l, at, many)
		}
		left := len(b)*8 - many
		if got, is := Peek(b, many, left); got != 1<<left-1 || !is {
			t.Fatalf("behind the bits of %v stands %d of %d bits, %v", l, got, left, is)
		}
		wantPeek(t, b, bytesText(b), many, left+1)
	}
}

// What is peeked at is packed as it was, from each place on.
func TestPackOfWhatWasPeekedAt(t *testing.T) {
	b := newDrawer(11).bytes(64)
	for _, n := range []int{1, 2, 3, 5, 8, 13, 16, 21, 31, 32} {
		var l []api.Code
		at := 0
		for {
			v, is := Peek(b, at, n)
			if !is {
				break
			}
			l = append(l, api.Code{N: n, V: v})
			at += n
		}
		if at+n <= 512 || at > 512 {
			t.Fatalf("by %d bits %d are peeked at", n, at)
		}
		got, many := Pack(l)
		if many != at || bytesText(got)[:at] != bytesText(b)[:at] {
			t.Fatalf("by %d bits %x comes back as %x", n, b, got)
		}
	}
}
