package bits

import (
	"math"
	"slices"
	"strconv"
	"strings"
	"testing"

	"cyanotype/api"
)

// The chapter's words, told by texts of noughts and ones.

// written is a number's lower 64 bits as a text, the greatest first.
func written(v int) string {
	s := strconv.FormatUint(uint64(v), 2)
	return strings.Repeat("0", 64-len(s)) + s
}

// codeText is what a code has: the end of its number.
func codeText(c api.Code) string {
	n := c.N
	switch {
	case n < 0:
		n = 0
	case n > 32:
		n = 32
	}
	return written(c.V)[64-n:]
}

func codesText(l []api.Code) string {
	var s strings.Builder
	for _, c := range l {
		s.WriteString(codeText(c))
	}
	return s.String()
}

func bytesText(b []byte) string {
	var s strings.Builder
	for _, one := range b {
		s.WriteString(written(int(one))[56:])
	}
	return s.String()
}

// valueOf is the number that a text is.
func valueOf(t *testing.T, s string) int {
	t.Helper()
	if s == "" {
		return 0
	}
	v, err := strconv.ParseUint(s, 2, 64)
	if err != nil {
		t.Fatal(err)
	}
	return int(v)
}

// packed is what the chapter asks of Pack.
func packed(t *testing.T, l []api.Code) ([]byte, int) {
	t.Helper()
	s := codesText(l)
	many := len(s)
	for len(s)%8 != 0 {
		s += "1"
	}
	var b []byte
	for ; s != ""; s = s[8:] {
		b = append(b, byte(valueOf(t, s[:8])))
	}
	return b, many
}

// peeked is what it asks of Peek, by the text of all bits.
func peeked(t *testing.T, s string, at, n int) (int, bool) {
	t.Helper()
	if n < 0 || n > 32 || at < 0 || at > len(s) || n > len(s[at:]) {
		return 0, false
	}
	return valueOf(t, s[at:][:n]), true
}

// stuffed is what it asks of Stuff.
func stuffed(b []byte) string {
	return strings.ReplaceAll(string(b), "\xff", "\xff\x00")
}

// unstuffed is what it asks of Unstuff, told by the pieces between one ff and the next.
func unstuffed(b []byte) (string, int) {
	pieces := strings.Split(string(b), "\xff")
	told, gone := pieces[0], len(pieces[0])
	for _, piece := range pieces[1:] {
		if !strings.HasPrefix(piece, "\x00") {
			break
		}
		told += "\xff" + piece[1:]
		gone += 1 + len(piece)
	}
	return told, gone
}

// drawer draws numbers that follow no pattern, the same each time.
type drawer uint64

func newDrawer(seed int) *drawer {
	d := drawer(uint64(seed)*2654435769 + 88172645463325252)
	return &d
}

func (d *drawer) next() uint64 {
	x := uint64(*d)
	x ^= x << 13
	x ^= x >> 7
	x ^= x << 17
	*d = drawer(x)
	return x
}

func (d *drawer) below(n int) int {
	return int(d.next() >> 8 % uint64(n))
}

// any is a number of any size, and either sign.
func (d *drawer) any() int {
	return int(d.next()^d.next()<<31) >> d.below(64)
}

// bytes are so many, some kinds of them oftener than others.
func (d *drawer) bytes(many int) []byte {
	often := []byte{0xff, 0xff, 0xff, 0x00, 0x00, 0xd9, 0x01, 0xfe, 0x7f, 0x80}
	l := make([]byte, many)
	for i := range l {
		l[i] = byte(d.below(256))
		if d.below(3) == 0 {
			l[i] = often[d.below(len(often))]
		}
	}
	return l
}

// ends are lengths and places at the ends of what an int holds, and others far off that have lower bits of those that are taken.
func ends() []int {
	return []int{
		math.MinInt, math.MinInt + 1, math.MinInt + 5, math.MinInt + 8, math.MinInt + 32, math.MinInt + 33, -1 << 62, -1 << 48, -1<<32 + 3, -1 << 32, -1<<31 - 1, -1 << 31, -65536, -256, -255, -64, -33, -32, -31, -9, -8, -7, -2, -1,
		1 << 31, 1<<32 - 1, 1 << 32, 1<<32 + 3, 1<<32 + 8, 1 << 48, 1 << 60, 1<<61 - 1, 1 << 61, 1<<61 + 1, 1 << 62, math.MaxInt - 63, math.MaxInt - 33, math.MaxInt - 32, math.MaxInt - 8, math.MaxInt - 7, math.MaxInt - 1, math.MaxInt,
	}
}

// lengths are lengths of codes of every kind.
func lengths() []int {
	return append(ends(), 0, 1, 2, 3, 4, 5, 6, 7, 8, 9, 10, 11, 15, 16, 17, 23, 24, 25, 30, 31, 32, 33, 34, 40, 63, 64, 65, 100, 256)
}

// numbers are numbers of every kind: some below 0, some with bits above those that a code takes.
func numbers() []int {
	return []int{
		0, 1, 2, 3, 5, 6, 10, 127, 128, 170, 255, 256, 257, 510, 32767, 32768, 65534, 65535, 65536, 0x5a5a5a5a, 0x2a5a5a5a5,
		1<<31 - 1, 1 << 31, 1<<32 - 2, 1<<32 - 1, 1 << 32, 1<<32 + 1, 1 << 33, 1 << 40, 1<<62 + 0x1234567, math.MaxInt - 1, math.MaxInt,
		-1, -2, -3, -5, -128, -256, -65536, -1 << 31, -1<<31 - 1, -1 << 32, -1<<32 + 5, -1 << 40, math.MinInt, math.MinInt + 1,
	}
}

// codeLists are lists of codes.
func codeLists() [][]api.Code {
	l := [][]api.Code{nil, {}}
	var all []api.Code
	for _, n := range lengths() {
		for _, v := range numbers() {
			one := api.Code{N: n, V: v}
			all = append(all, one)
			l = append(l, []api.Code{one}, []api.Code{{N: 3, V: 2}, one, {N: 2, V: 1}})
		}
	}
	l = append(l, all)
	for seed := range 300 {
		l = append(l, drawnCodes(seed))
	}
	return l
}

// drawnCodes are some with lengths that are clipped among them.
func drawnCodes(seed int) []api.Code {
	d := newDrawer(seed)
	most := 1 + d.below(40)
	l := make([]api.Code, d.below(200))
	for i := range l {
		l[i] = api.Code{N: d.below(most+2) - 1, V: d.any()}
	}
	return l
}

// rows are rows of bytes, without ff, of ff alone, with it at either end, in the middle, side by side, and with each kind of byte behind it.
func rows() [][]byte {
	l := [][]byte{nil, {}}
	for _, s := range []string{
		"\x00", "\x01", "\xfe", "\x41\x42", "\x00\x00\x00", "\x7f\x80\xfe\xd9\x00",
		"\xff", "\xff\xff", "\xff\xff\xff", "\xff\xff\xff\xff\xff\xff\xff\xff",
		"\xff\x00", "\xff\x00\xff\x00", "\xff\x00\xff", "\xff\xff\x00", "\xff\xff\x00\x00", "\xff\x00\x00", "\xff\x00\x00\xff\x00", "\xff\x00\xff\xff\x00", "\x00\xff", "\x00\xff\x00",
		"\x41\xff\x00\x42", "\x41\xff\x00\x42\xff", "\x41\xff", "\x41\x42\xff\xff", "\x41\xff\x00", "\x41\xff\x00\xff\xd9",
		"\x41\xff\xd9\x42", "\x41\xff\x01\x42", "\x41\xff\xfe\x00", "\x41\xff\xff\xd9", "\x41\xff\xff\x00\x42", "\x41\x42\xff\xd0\x43\xff\x00\x44\xff\xd9", "\xff\xd8", "\xff\xd8\xff\x00", "\xff\x80", "\xff\x7f", "\xff\x10",
	} {
		l = append(l, []byte(s))
	}
	for one := range 256 {
		l = append(l, []byte{byte(one)}, []byte{0x41, 0xff, byte(one), 0x42}, []byte{byte(one), 0xff, 0x00, byte(one)}, []byte{0xff, byte(one)})
	}
	for seed := range 300 {
		d := newDrawer(seed)
		l = append(l, d.bytes(d.below(80)), slices.Repeat(d.bytes(1+d.below(5)), 1+d.below(20)))
	}
	return append(l, newDrawer(1).bytes(20000), slices.Repeat([]byte{0xff}, 5000), make([]byte, 5000))
}

// shortRows are all of up to six of the bytes that tell something.
func shortRows(ask func(b []byte)) {
	kinds := []byte{0x00, 0x01, 0xd9, 0xff}
	for many := range 7 {
		b := make([]byte, many)
		for number := range 1 << (2 * many) {
			for i := range b {
				b[i] = kinds[number>>(2*i)&3]
			}
			ask(b)
		}
	}
}

// eachRow asks something of all of these.
func eachRow(t *testing.T, ask func(b []byte)) {
	t.Helper()
	for _, b := range rows() {
		ask(b)
	}
	shortRows(ask)
}
