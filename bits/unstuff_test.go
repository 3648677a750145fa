package bits

import (
	"bytes"
	"slices"
	"testing"
)

func TestUnstuffWrittenOut(t *testing.T) {
	for _, c := range []struct {
		b, want string
		gone    int
	}{
		{"", "", 0},
		{"\x00", "\x00", 1},
		{"\x41\x42\x43", "\x41\x42\x43", 3},
		{"\xff\x00\xd8", "\xff\xd8", 3},
		{"\xff\x00", "\xff", 2},
		{"\xff\x00\xff\x00", "\xff\xff", 4},
		{"\xff\x00\x00", "\xff\x00", 3},
		{"\xff", "", 0},
		{"\xff\xff", "", 0},
		{"\xff\xff\x00", "", 0},
		{"\xff\xd9", "", 0},
		{"\xff\x01\xff\x00", "", 0},
		{"\x41\xff", "\x41", 1},
		{"\x41\xff\x00\xff", "\x41\xff", 3},
		{"\x41\xff\x00\xff\xff\x00", "\x41\xff", 3},
		{"\x41\xff\x00\x42\xff\xd0\x43", "\x41\xff\x42", 4},
		{"\x41\x42\xff\xd9\x43\xff\x00", "\x41\x42", 2},
		{"\x00\xff\xfe", "\x00", 1},
	} {
		if got, gone := Unstuff([]byte(c.b)); string(got) != c.want || gone != c.gone {
			t.Errorf("Unstuff of %x: %x, %d, not %x, %d", c.b, got, gone, c.want, c.gone)
		}
	}
}

func wantUnstuff(t *testing.T, b []byte) {
	t.Helper()
	want, wantGone := unstuffed(b)
	if got, gone := Unstuff(b); string(got) != want || gone != wantGone {
		t.Fatalf("Unstuff of %x: %x, %d, not %x, %d", b, got, gone, want, wantGone)
	}
}

func TestUnstuffAgainstTheWords(t *testing.T) {
	eachRow(t, func(b []byte) { wantUnstuff(t, b) })
}

// An ff at each place of a row, with each byte behind it.
func TestUnstuffOfEachByteBehind(t *testing.T) {
	for place := range 8 {
		for behind := range 256 {
			b := bytes.Repeat([]byte{0x41}, 10)
			b[place], b[place+1] = 0xff, byte(behind)
			wantUnstuff(t, b)
			got, gone := Unstuff(b)
			if behind == 0 {
				if len(got) != 9 || gone != 10 {
					t.Fatalf("%x: %x, %d", b, got, gone)
				}
			} else if len(got) != place || gone != place {
				t.Fatalf("%x: %x, %d", b, got, gone)
			}
		}
	}
}

// The end is the ff where it stands, or b's end; what was gone through, stuffed again, is what it was.
func TestUnstuffEndsAtAnFf(t *testing.T) {
	eachRow(t, func(b []byte) {
		got, gone := Unstuff(b)
		if gone < 0 || gone > len(b) {
			t.Fatalf("%d of %x are gone through", gone, b)
		}
		if !bytes.Equal(Stuff(got), b[:gone]) {
			t.Fatalf("Unstuff of %x: %x, %d", b, got, gone)
		}
		if rest := b[gone:]; len(rest) > 0 && (rest[0] != 0xff || len(rest) > 1 && rest[1] == 0x00) {
			t.Fatalf("Unstuff of %x ends at %x", b, rest)
		}
	})
}

// What stands behind the end changes nothing.
func TestUnstuffReadsNothingBehindTheEnd(t *testing.T) {
	for _, ahead := range [][]byte{nil, {0x41}, {0xff, 0x00}, newDrawer(3).bytes(0), Stuff(newDrawer(4).bytes(50))} {
		for _, end := range []byte{0x01, 0xd0, 0xd9, 0xff} {
			want, wantGone := Unstuff(ahead)
			for seed := range 20 {
				b := slices.Concat(ahead, []byte{0xff, end}, newDrawer(seed).bytes(seed))
				if got, gone := Unstuff(b); !bytes.Equal(got, want) || gone != wantGone {
					t.Fatalf("Unstuff of %x: %x, %d", b, got, gone)
				}
			}
		}
	}
}
