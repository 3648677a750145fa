package bits

import (
	"bytes"
	"slices"
	"testing"

	"cyanotype/api"
)

// told is what all calls that take bytes answer.
type told struct {
	stuffed, unstuffed string
	gone, extra        int
	number             int
	is                 bool
}

func askAll(b []byte) told {
	var a told
	a.stuffed = string(Stuff(b))
	l, gone := Unstuff(b)
	a.unstuffed, a.gone = string(l), gone
	a.extra = Extra(b)
	a.number, a.is = Peek(b, max(len(b)*8-5, 0), min(len(b), 5))
	return a
}

// Neither bytes, nor what lies behind them in their memory, is changed, or read.
func TestBytesAreNotChanged(t *testing.T) {
	eachRow(t, func(b []byte) {
		want := askAll(bytes.Clone(b))
		for _, behind := range []string{"\x00\x00\x00\x00\x00", "\xff\x00\xff", "\x00\xff\xd9"} {
			memory := append(bytes.Clone(b), behind...)
			was := bytes.Clone(memory)
			list := memory[:len(b)]
			if got := askAll(list); got != want {
				t.Fatalf("of %x what lies behind is read: %#v, not %#v", b, got, want)
			}
			for n := 1; n <= 32; n++ {
				if _, is := Peek(list, len(b)*8-n+1, n); is {
					t.Fatalf("a bit behind %x is peeked at", b)
				}
			}
			if !bytes.Equal(memory, was) {
				t.Fatalf("%x is changed: %x", was, memory)
			}
		}
	})
}

func TestCodesAreNotChanged(t *testing.T) {
	for _, l := range codeLists() {
		memory := append(slices.Clone(l), api.Code{N: 7, V: 3}, api.Code{N: 32, V: -1})
		was := slices.Clone(memory)
		want, wantMany := packed(t, l)
		if got, many := Pack(memory[:len(l)]); !slices.Equal(got, want) || many != wantMany {
			t.Fatalf("of %v what lies behind is packed", l)
		}
		if !slices.Equal(memory, was) {
			t.Fatalf("%v are changed: %v", was, memory)
		}
	}
}

// What is told hangs no more on what was handed in.
func TestNothingIsKept(t *testing.T) {
	codes := []api.Code{{N: 9, V: 0x155}, {N: 15, V: 0x1234}}
	want, _ := packed(t, codes)
	got, _ := Pack(codes)
	codes[0], codes[1] = api.Code{N: 3, V: 0}, api.Code{}
	if !slices.Equal(got, want) {
		t.Error("what was packed is changed by the codes")
	}
	wantPack(t, codes)
	for _, row := range []string{"\x41\x42", "\xff\x00\x41", "\x41\xff\x00\xff\xd9", "\x01"} {
		b := []byte(row)
		stuffs, wantStuffs := Stuff(b), stuffed(b)
		unstuffs, _ := Unstuff(b)
		wantUnstuffs, _ := unstuffed(b)
		for i := range b {
			b[i] ^= 0xff
		}
		if string(stuffs) != wantStuffs || string(unstuffs) != wantUnstuffs {
			t.Errorf("what came of %x is changed by it", row)
		}
		wantUnstuff(t, b)
		if string(Stuff(b)) != stuffed(b) {
			t.Errorf("%x is told of as it was", row)
		}
	}
}

// spoil changes what was told, and lays more behind it, where there is room.
func spoil(b []byte) {
	for i := range b {
		b[i] ^= 0xa5
	}
	_ = append(b, 7, 7, 7)
}

// What was told may be changed: neither what was handed in, nor what is told beside it, or later, is.
func TestAnswersAreNewMemory(t *testing.T) {
	eachRow(t, func(b []byte) {
		was := bytes.Clone(b)
		want := askAll(was)
		one, two := Stuff(b), Stuff(b)
		spoil(one)
		back, _ := Unstuff(b)
		again, _ := Unstuff(b)
		spoil(back)
		if string(two) != want.stuffed || string(again) != want.unstuffed {
			t.Fatalf("what came of %x is changed from outside", was)
		}
		if !bytes.Equal(b, was) {
			t.Fatalf("%x is changed from outside: %x", was, b)
		}
		if askAll(b) != want {
			t.Fatalf("of %x it is told otherwise later", was)
		}
	})
	for seed := range 50 {
		l := drawnCodes(seed)
		one, _ := Pack(l)
		two, _ := Pack(l)
		spoil(one)
		if want, _ := packed(t, l); !slices.Equal(two, want) {
			t.Fatalf("what came of %v is changed from outside", l)
		}
		wantPack(t, l)
	}
}

// Nothing lies behind what is told.
func TestNothingBehindAnswers(t *testing.T) {
	ask := func(b []byte) {
		for _, one := range b[len(b):cap(b)] {
			if one != 0 {
				t.Fatalf("%x lies behind %x", one, b)
			}
		}
	}
	eachRow(t, func(b []byte) {
		ask(Stuff(b))
		l, _ := Unstuff(b)
		ask(l)
	})
	for _, l := range codeLists() {
		b, _ := Pack(l)
		ask(b)
	}
}

// A list that is nil and one that is empty are the same thing.
func TestNilAndEmpty(t *testing.T) {
	if askAll(nil) != askAll([]byte{}) || askAll(nil) != (told{is: true}) {
		t.Error("of nil and empty bytes it is told otherwise")
	}
	for _, l := range [][]api.Code{nil, {}} {
		if b, many := Pack(l); len(b) != 0 || many != 0 {
			t.Errorf("Pack of none: %x, %d", b, many)
		}
	}
}
