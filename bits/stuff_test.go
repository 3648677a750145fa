package bits

import (
	"bytes"
	"testing"
)

func TestStuffWrittenOut(t *testing.T) {
	for _, c := range []struct {
		b, want string
	}{
		{"\xff\xd8", "\xff\x00\xd8"},
		{"", ""},
		{"\x00", "\x00"},
		{"\xfe\x01", "\xfe\x01"},
		{"\xff", "\xff\x00"},
		{"\xff\x00", "\xff\x00\x00"},
		{"\xff\xff", "\xff\x00\xff\x00"},
		{"\xff\xff\xff", "\xff\x00\xff\x00\xff\x00"},
		{"\x41\xff", "\x41\xff\x00"},
		{"\x41\xff\x42\xff\xff\x43", "\x41\xff\x00\x42\xff\x00\xff\x00\x43"},
		{"\x00\xff\x00\x00\xff", "\x00\xff\x00\x00\x00\xff\x00"},
	} {
		if got := Stuff([]byte(c.b)); string(got) != c.want {
			t.Errorf("Stuff of %x: %x, not %x", c.b, got, c.want)
		}
	}
}

func TestStuffAgainstTheWords(t *testing.T) {
	eachRow(t, func(b []byte) {
		if got := Stuff(b); string(got) != stuffed(b) {
			t.Fatalf("Stuff of %x: %x, not %x", b, got, stuffed(b))
		}
	})
}

func TestExtraWrittenOut(t *testing.T) {
	for b, want := range map[string]int{
		"": 0, "\x00": 0, "\xfe\x7f": 0, "\xff": 1, "\xff\xd8": 1, "\xff\x00": 1, "\xff\xff": 2, "\xff\xff\xff": 3, "\x41\xff\x42\xff\xff\x43": 3, "\x00\xff": 1, "\xff\x00\xff\xd9": 2,
	} {
		if got := Extra([]byte(b)); got != want {
			t.Errorf("Extra of %x: %d, not %d", b, got, want)
		}
	}
}

func TestExtraAgainstTheWords(t *testing.T) {
	eachRow(t, func(b []byte) {
		want := 0
		for _, one := range b {
			if one == 0xff {
				want++
			}
		}
		if got := Extra(b); got != want {
			t.Fatalf("Extra of %x: %d, not %d", b, got, want)
		}
	})
}

// Stuff tells just Extra bytes more.
func TestStuffTellsExtraMore(t *testing.T) {
	eachRow(t, func(b []byte) {
		if got := Stuff(b); len(got) != len(b)+Extra(b) {
			t.Fatalf("Stuff of %x, of %d bytes and %d extra, has %d", b, len(b), Extra(b), len(got))
		}
	})
}

// No marker lies in what is stuffed: each ff has a 00 behind it.
func TestNoMarkerIsStuffed(t *testing.T) {
	eachRow(t, func(b []byte) {
		got := Stuff(b)
		for i, one := range got {
			if one == 0xff && (i+1 == len(got) || got[i+1] != 0x00) {
				t.Fatalf("Stuff of %x has a marker: %x", b, got)
			}
		}
	})
}

// What was stuffed is there again, and is gone through to its end.
func TestThereAgain(t *testing.T) {
	eachRow(t, func(b []byte) {
		l := Stuff(b)
		if got, gone := Unstuff(l); !bytes.Equal(got, b) || gone != len(l) {
			t.Fatalf("%x comes back as %x, of %d bytes gone through", b, got, gone)
		}
	})
}

// So it is with a marker behind it, and whatever stands behind that.
func TestThereAgainUpToAMarker(t *testing.T) {
	eachRow(t, func(b []byte) {
		l := Stuff(b)
		for _, behind := range []string{"\xff", "\xff\xd9", "\xff\xd0\x41", "\xff\xff\x00", "\xff\x01\xff\x00", "\xff\xff\xff\xff\xd9"} {
			more := append(bytes.Clone(l), behind...)
			if got, gone := Unstuff(more); !bytes.Equal(got, b) || gone != len(l) {
				t.Fatalf("%x, with %x behind, comes back as %x, of %d bytes gone through", b, behind, got, gone)
			}
		}
	})
}
