package scan

import (
	"go/ast"
	"go/parser"
	"go/token"
	"math"
	"slices"
	"testing"

	"cyanotype/api"
	"cyanotype/buf"
	"cyanotype/num"
	"cyanotype/sec"
	"cyanotype/trace"
)

// numbers are some that a word may hold: no two are the same, none is 0, and some have bits below, above, and all over a byte.
func numbers() []int {
	return []int{5, -1, 7 << 8, 255, math.MinInt, 0x1234567890abcdef, -256, math.MaxInt, 1, 0x80, 3 << 40, -3}
}

// lengths are how many of the numbers a buffer is made of.
func lengths() []int {
	return []int{0, 1, 2, 5, 12}
}

// bounds are ends of a window over so many words: below 0, within, at the length, and beyond.
func bounds(n int) []int {
	return []int{math.MinInt, -1 << 32, -2, -1, 0, 1, 3, n - 1, n, n + 1, 1 << 20, 1<<32 + 1, math.MaxInt}
}

// places are those of a buffer of so many words, some on both sides of them, and some far off, that have a place's lower bits.
func places(n int) []int {
	l := []int{math.MinInt, math.MinInt + 1, -1 << 32, -1<<32 + 1, -256, 256, 257, 1 << 20, 1 << 32, 1<<32 + 1, 1 << 62, math.MaxInt - 3, math.MaxInt}
	for i := -9; i <= n+9; i++ {
		l = append(l, i)
	}
	return l
}

func secrets(l []int) []sec.Sec {
	var words []sec.Sec
	for _, n := range l {
		words = append(words, sec.Of(n))
	}
	return words
}

// told is what the words hold; Words records nothing, and nothing is recorded with no recorder.
func told(b *buf.Buf) []int {
	var l []int
	for _, w := range b.Words() {
		l = append(l, w.Open(nil))
	}
	return l
}

// within says whether a place is one of a window over so many words, in the chapter's words.
func within(i, from, to, n int) bool {
	return num.Clip(from, 0, n) <= i && i <= num.Clip(to, 0, n)-1
}

// scanned are the events of a scan, each place seen so many times: once if it is got, twice if it is then set.
func scanned(from, to, n, times int) []api.Event {
	var seen []api.Event
	for i := range n {
		if within(i, from, to, n) {
			seen = append(seen, slices.Repeat([]api.Event{{Kind: api.Idx, N: i}}, times)...)
		}
	}
	return slices.Insert(seen, 0, api.Event{Kind: api.Br, N: len(seen) / times})
}

// windows calls for each window over each length.
func windows(call func(held []int, from, to int)) {
	for _, n := range lengths() {
		for _, from := range bounds(n) {
			for _, to := range bounds(n) {
				call(numbers()[:n], from, to)
			}
		}
	}
}

func wantWord(t *testing.T, got sec.Sec, want int, what string, of ...int) {
	t.Helper()
	if n := got.Open(nil); n != want {
		t.Fatalf("%s of %v: %d, want %d", what, of, n, want)
	}
}

func wantHeld(t *testing.T, b *buf.Buf, want []int, what string, of ...int) {
	t.Helper()
	if got := told(b); !slices.Equal(got, want) {
		t.Fatalf("%s of %v: held %v, want %v", what, of, got, want)
	}
}

func wantEvents(t *testing.T, r *trace.Recorder, want []api.Event, what string, of ...int) {
	t.Helper()
	if got := r.Events(); !slices.Equal(got, want) {
		t.Fatalf("%s of %v: events %v, want %v", what, of, got, want)
	}
}

func TestExample(t *testing.T) {
	r := trace.New()
	b := buf.Of(r, secrets([]int{5, 7}))
	wantWord(t, Load(b, sec.Of(1), 0, 2), 7, "Load", 1, 0, 2)
	wantEvents(t, r, []api.Event{{Kind: 2, N: 2}, {Kind: 1, N: 0}, {Kind: 1, N: 1}}, "Load", 1, 0, 2)
}

func TestLoad(t *testing.T) {
	windows(func(held []int, from, to int) {
		for _, at := range places(len(held)) {
			r := trace.New()
			b := buf.Of(r, secrets(held))
			want := 0
			if within(at, from, to, len(held)) {
				want = held[at]
			}
			wantWord(t, Load(b, sec.Of(at), from, to), want, "Load", at, from, to)
			wantEvents(t, r, scanned(from, to, len(held), 1), "Load", at, from, to)
			wantHeld(t, b, held, "after Load", at, from, to)
		}
	})
}

func TestLoadBesideTheWindow(t *testing.T) {
	b := buf.Of(nil, secrets([]int{11, 12, 13, 14, 15}))
	for at, want := range []int{0, 0, 13, 14, 0} {
		wantWord(t, Load(b, sec.Of(at), 2, 4), want, "Load", at, 2, 4)
	}
}

func TestStore(t *testing.T) {
	const laid = -77
	windows(func(held []int, from, to int) {
		for _, at := range places(len(held)) {
			r := trace.New()
			b := buf.Of(r, secrets(held))
			want := slices.Clone(held)
			if within(at, from, to, len(held)) {
				want[at] = laid
			}
			Store(b, sec.Of(at), sec.Of(laid), from, to)
			wantHeld(t, b, want, "Store", at, from, to)
			wantEvents(t, r, scanned(from, to, len(held), 2), "Store", at, from, to)
		}
	})
}

// What was stored is loaded, all 64 bits of it, and what was there is gone.
func TestStoredIsLoaded(t *testing.T) {
	b := buf.Of(nil, secrets(numbers()))
	for at := range b.Len() {
		for _, n := range append(numbers(), 0) {
			Store(b, sec.Of(at), sec.Of(n), 0, b.Len())
			wantWord(t, Load(b, sec.Of(at), 0, b.Len()), n, "Load behind Store", at, n)
		}
	}
	wantHeld(t, b, make([]int, b.Len()), "0 at all places")
}

func TestCrossedAndEqualBoundsHaveNoPlaces(t *testing.T) {
	for _, ends := range [][2]int{{0, 0}, {2, 2}, {5, 5}, {3, 1}, {5, 0}, {9, 7}, {7, 9}, {-5, -1}, {-1, -5}, {math.MaxInt, math.MinInt}} {
		from, to := ends[0], ends[1]
		r := trace.New()
		b := buf.Of(r, secrets([]int{1, 2, 3, 4, 5}))
		nothing := []api.Event{{Kind: api.Br, N: 0}}
		for at := -1; at <= 6; at++ {
			wantWord(t, Load(b, sec.Of(at), from, to), 0, "Load", at, from, to)
			Store(b, sec.Of(at), sec.Of(9), from, to)
			Put(b, sec.Of(at), sec.Of(-1), 8, from, to)
			wantWord(t, Take(b, sec.Of(at), 8, from, to), 0, "Take", at, from, to)
		}
		wantEvents(t, r, slices.Repeat(nothing, 4*8), "no places", from, to)
		wantHeld(t, b, []int{1, 2, 3, 4, 5}, "no places", from, to)
	}
}

func TestLook(t *testing.T) {
	for n := range len(numbers()) + 1 {
		table := numbers()[:n]
		for _, at := range places(n) {
			want := 0
			if 0 <= at && at < n {
				want = table[at]
			}
			wantWord(t, Look(table, sec.Of(at)), want, "Look", n, at)
		}
		if !slices.Equal(table, numbers()[:n]) {
			t.Fatal("Look changed the table")
		}
	}
}

func TestLookAtNothing(t *testing.T) {
	for _, at := range append(places(0), 0) {
		wantWord(t, Look(nil, sec.Of(at)), 0, "Look of nil", at)
		wantWord(t, Look([]int{}, sec.Of(at)), 0, "Look of an empty table", at)
	}
	behind := []int{4, 5, 6}[:1]
	wantWord(t, Look(behind, sec.Of(1)), 0, "Look behind the length", 1)
}

// A table may be longer than a byte tells, and have the same number twice.
func TestLookInLongTables(t *testing.T) {
	table := make([]int, 70000)
	for i := range table {
		table[i] = i/2 - 1000
	}
	for _, at := range []int{0, 1, 255, 256, 257, 65535, 65536, 69999} {
		wantWord(t, Look(table, sec.Of(at)), table[at], "Look", at)
	}
	wantWord(t, Look(table, sec.Of(70000)), 0, "Look", 70000)
}

// Each quotient's first and last number, for each divisor: just there might one be off.
func TestDivWhereQuotientsChange(t *testing.T) {
	for d := 1; d <= 65535; d++ {
		for n := 0; n <= 65535; n += d {
			wantWord(t, Div(sec.Of(n), d), n/d, "Div", n, d)
			last := min(n+d-1, 65535)
			wantWord(t, Div(sec.Of(last), d), last/d, "Div", last, d)
		}
	}
}

func TestDivOfAllNumbers(t *testing.T) {
	for _, d := range []int{1, 2, 3, 5, 7, 10, 16, 99, 100, 127, 128, 253, 255, 256, 257, 641, 4095, 4097, 32767, 32768, 32769, 43691, 65521, 65534, 65535} {
		for n := range 65536 {
			wantWord(t, Div(sec.Of(n), d), n/d, "Div", n, d)
		}
	}
}

func TestRoundIsNumRound(t *testing.T) {
	for d := 1; d <= 255; d++ {
		for n := -32767; n <= 32767; n++ {
			wantWord(t, Round(sec.Of(n), d), num.Round(n, d), "Round", n, d)
		}
	}
}

func TestRoundHalves(t *testing.T) {
	for _, c := range [][3]int{
		// n, d, answer
		{5, 2, 3}, {-5, 2, -3}, {4, 2, 2}, {1, 2, 1}, {-1, 2, -1}, {1, 3, 0}, {-1, 3, 0}, {2, 3, 1}, {-2, 3, -1}, {0, 255, 0},
		{127, 254, 1}, {126, 254, 0}, {-127, 254, -1}, {-126, 254, 0}, {127, 255, 0}, {128, 255, 1}, {-127, 255, 0}, {-128, 255, -1},
		{32767, 1, 32767}, {-32767, 1, -32767}, {32767, 2, 16384}, {-32767, 2, -16384},
	} {
		wantWord(t, Round(sec.Of(c[0]), c[1]), c[2], "Round", c[:2]...)
	}
}

// Of other numbers nothing is promised but an end: neither a panic nor a loop without one.
func TestDivAndRoundEndForAnyNumber(t *testing.T) {
	edges := []int{
		0, 1, -1, 2, -2, 255, 256, -255, 32767, 32768, -32768, 65535, 65536, -65535, 1 << 20, 1 << 31, 1 << 32, -1 << 32,
		1<<40 - 1, 1 << 40, 1<<40 + 1, 1 << 62, math.MaxInt, math.MinInt, math.MinInt + 1,
	}
	for _, n := range edges {
		for _, d := range edges {
			Div(sec.Of(n), d)
			Round(sec.Of(n), d)
		}
	}
}

// piece is the chapter's byte i of the n lowest bytes of a number, the greatest first.
func piece(s, n, i int) int {
	return int(byte(uint64(s) >> (8 * (n - 1 - i))))
}

// amounts are numbers of bytes: below 0, within a word, and above.
func amounts() []int {
	return []int{math.MinInt, -8, -1, 0, 1, 2, 3, 4, 5, 6, 7, 8, 9, 16, 256, 1<<32 + 1, math.MaxInt}
}

// putModel is what is held then, in the chapter's words.
func putModel(held []int, at, s, n, from, to int) []int {
	n = num.Clip(n, 0, 8)
	held = slices.Clone(held)
	for i := range n {
		if within(at+i, from, to, len(held)) {
			held[at+i] |= piece(s, n, i)
		}
	}
	return held
}

// takeModel is what is taken, in the chapter's words.
func takeModel(held []int, at, n, from, to int) int {
	taken := 0
	for i := range num.Clip(n, 0, 8) {
		taken *= 256
		if within(at+i, from, to, len(held)) {
			taken += int(byte(held[at+i]))
		}
	}
	return taken
}

func TestPut(t *testing.T) {
	const s = 0x0123456789abcdef
	windows(func(held []int, from, to int) {
		for _, at := range places(len(held)) {
			for _, n := range amounts() {
				r := trace.New()
				b := buf.Of(r, secrets(held))
				Put(b, sec.Of(at), sec.Of(s), n, from, to)
				wantHeld(t, b, putModel(held, at, s, n, from, to), "Put", at, s, n, from, to)
				wantEvents(t, r, scanned(from, to, len(held), 2), "Put", at, s, n, from, to)
			}
		}
	})
}

func TestTake(t *testing.T) {
	windows(func(held []int, from, to int) {
		for _, at := range places(len(held)) {
			for _, n := range amounts() {
				r := trace.New()
				b := buf.Of(r, secrets(held))
				wantWord(t, Take(b, sec.Of(at), n, from, to), takeModel(held, at, n, from, to), "Take", at, n, from, to)
				wantEvents(t, r, scanned(from, to, len(held), 1), "Take", at, n, from, to)
				wantHeld(t, b, held, "after Take", at, n, from, to)
			}
		}
	})
}

// The models' own words are held against numbers that are written out.
func TestPutWrittenOut(t *testing.T) {
	for _, c := range []struct {
		at, s, n, from, to int
		held               []int
	}{
		{1, 0xaabbcc, 2, 0, 5, []int{0, 0xbb, 0xcc, 0, 0}},
		{1, 0xaabbcc, 3, 0, 5, []int{0, 0xaa, 0xbb, 0xcc, 0}},
		{1, 0xaabbcc, 4, 0, 5, []int{0, 0, 0xaa, 0xbb, 0xcc}},
		{-1, 0xaabbcc, 3, 0, 5, []int{0xbb, 0xcc, 0, 0, 0}},
		{-3, 0xaabbcc, 3, 0, 5, []int{0, 0, 0, 0, 0}},
		{4, 0xaabbcc, 3, 0, 5, []int{0, 0, 0, 0, 0xaa}},
		{5, 0xaabbcc, 3, 0, 5, []int{0, 0, 0, 0, 0}},
		{1, 0xaabbcc, 3, 2, 3, []int{0, 0, 0xbb, 0, 0}},
		{1, 0xaabbcc, 3, 4, 5, []int{0, 0, 0, 0, 0}},
		{2, 0xaabbcc, 0, 0, 5, []int{0, 0, 0, 0, 0}},
		{2, 0xaabbcc, -1, 0, 5, []int{0, 0, 0, 0, 0}},
		{0, 0x0102030405060708, 8, 0, 5, []int{1, 2, 3, 4, 5}},
		{0, 0x0102030405060708, 9, 0, 5, []int{1, 2, 3, 4, 5}},
		{-4, 0x0102030405060708, 100, 0, 5, []int{5, 6, 7, 8, 0}},
		{0, -2, 5, 0, 5, []int{255, 255, 255, 255, 254}},
	} {
		b := buf.New(nil, 5)
		Put(b, sec.Of(c.at), sec.Of(c.s), c.n, c.from, c.to)
		wantHeld(t, b, c.held, "Put", c.at, c.s, c.n, c.from, c.to)
	}
}

func TestTakeWrittenOut(t *testing.T) {
	b := buf.Of(nil, secrets([]int{0x7711, -256 + 0x22, 0x33, 1<<62 + 0x44, -1}))
	for _, c := range [][5]int{
		// at, n, from, to, answer
		{0, 1, 0, 5, 0x11},
		{0, 2, 0, 5, 0x1122},
		{1, 3, 0, 5, 0x223344},
		{0, 5, 0, 5, 0x11223344ff},
		{-1, 3, 0, 5, 0x1122},
		{-3, 3, 0, 5, 0},
		{3, 3, 0, 5, 0x44ff00},
		{4, 3, 0, 5, 0xff0000},
		{5, 3, 0, 5, 0},
		{1, 3, 2, 3, 0x3300},
		{1, 3, 4, 5, 0},
		{2, 0, 0, 5, 0},
		{2, -1, 0, 5, 0},
		{0, 8, 0, 5, 0x11223344ff000000},
		{0, 9, 0, 5, 0x11223344ff000000},
		{-3, 100, 0, 5, 0x11223344ff},
		{4, 8, 0, 5, -1 << 56},
	} {
		wantWord(t, Take(b, sec.Of(c[0]), c[1], c[2], c[3]), c[4], "Take", c[:4]...)
	}
}

// What is laid lies beside what was there: no bit of a word goes, those above its byte and in it.
func TestPutKeepsBits(t *testing.T) {
	held := []int{0x0f, 0x700, -256, math.MinInt, 0xff}
	b := buf.Of(nil, secrets(held))
	Put(b, sec.Of(0), sec.Of(0xf0aa550180), 5, 0, 5)
	wantHeld(t, b, []int{0xff, 0x7aa, -256 + 0x55, math.MinInt + 1, 0xff}, "Put over bits")
	Put(b, sec.Of(0), sec.Of(0), 5, 0, 5)
	wantHeld(t, b, []int{0xff, 0x7aa, -256 + 0x55, math.MinInt + 1, 0xff}, "Put of 0")
}

// What is put is taken: of a number its n lowest bytes, wherever they are, whatever the words have above a byte.
func TestPutIsTaken(t *testing.T) {
	for _, above := range []int{0, 0x100, -256} {
		for _, s := range append(numbers(), 0) {
			for _, n := range amounts() {
				for at := range 5 {
					b := buf.Of(nil, secrets(slices.Repeat([]int{above}, 12)))
					Put(b, sec.Of(at), sec.Of(s), n, 0, 12)
					want := s
					if n < 8 {
						want = s & (1<<(8*max(n, 0)) - 1)
					}
					wantWord(t, Take(b, sec.Of(at), n, 0, 12), want, "Take behind Put", at, s, n)
				}
			}
		}
	}
}

// run asks all calls with the same public numbers, and answers what was seen.
func run(words []int, at, s, from, to int) *trace.Recorder {
	r := trace.New()
	b := buf.Of(r, secrets(words))
	place, word := sec.Of(at), sec.Of(s)
	Store(b, place, word, from, to)
	Load(b, place, from, to)
	Look([]int{1, 2, 3}, place)
	Div(word, 7)
	Round(word, 7)
	for _, n := range amounts() {
		Put(b, place, word, n, from, to)
		Take(b, place, n, from, to)
	}
	return r
}

// Wherever the place is, and whatever is held there, the same is seen, and nothing is opened.
func TestTheSameIsSeen(t *testing.T) {
	const n = 12
	for _, from := range bounds(n) {
		for _, to := range bounds(n) {
			first := run(make([]int, n), 0, 0, from, to)
			if first.Count(api.Open) != 0 {
				t.Fatalf("opened, over %d to %d", from, to)
			}
			for k, at := range places(n) {
				s := numbers()[k%len(numbers())]
				if !trace.Same(first, run(numbers(), at, s, from, to)) {
					t.Fatalf("another trace with the place %d, the word %d, over %d to %d", at, s, from, to)
				}
			}
		}
	}
}

// How many bytes there are is public, and yet nothing that is seen: they are all found in one scan.
func TestOneScanForAllBytes(t *testing.T) {
	r := trace.New()
	b := buf.New(r, 3)
	var seen []api.Event
	for _, n := range amounts() {
		Put(b, sec.Of(0), sec.Of(1), n, 1, 3)
		seen = append(seen, scanned(1, 3, 3, 2)...)
		Take(b, sec.Of(0), n, 1, 3)
		seen = append(seen, scanned(1, 3, 3, 1)...)
	}
	wantEvents(t, r, seen, "Put and Take")
}

func TestNilRecorder(t *testing.T) {
	b := buf.New(nil, 4)
	Store(b, sec.Of(2), sec.Of(-9), 0, 4)
	wantWord(t, Load(b, sec.Of(2), 0, 4), -9, "Load", 2)
	Put(b, sec.Of(0), sec.Of(0x1234), 2, 0, 4)
	wantWord(t, Take(b, sec.Of(0), 2, 0, 4), 0x1234, "Take", 0, 2)
	wantHeld(t, b, []int{0x12, 0x34, -9, 0}, "without a recorder")
}

func TestNilBuf(t *testing.T) {
	for _, at := range places(0) {
		for _, from := range bounds(0) {
			for _, to := range bounds(0) {
				place := sec.Of(at)
				Store(nil, place, sec.Of(5), from, to)
				Put(nil, place, sec.Of(5), 8, from, to)
				wantWord(t, Load(nil, place, from, to), 0, "Load of nil", at, from, to)
				wantWord(t, Take(nil, place, 8, from, to), 0, "Take of nil", at, from, to)
			}
		}
	}
}

// The greatest buffer is gone through whole, and its last place is one as any other.
func TestTheGreatestBuffer(t *testing.T) {
	const n = 1 << 20
	r := trace.New()
	b := buf.New(r, n)
	Store(b, sec.Of(n-1), sec.Of(3), math.MinInt, math.MaxInt)
	wantWord(t, Load(b, sec.Of(n-1), 0, n), 3, "Load of the last", n-1)
	wantWord(t, Load(b, sec.Of(n), 0, n+1), 0, "Load behind the last", n)
	if r.Count(api.Br) != 3 || r.Count(api.Idx) != 4*n || len(r.Events()) != 4*n+3 {
		t.Fatalf("%d bounds, %d places", r.Count(api.Br), r.Count(api.Idx))
	}
}

// One buffer alone is changed, and records: others of the same recorder, or of another, stay as they are.
func TestBuffersApart(t *testing.T) {
	r, other := trace.New(), trace.New()
	a, b, c := buf.New(r, 2), buf.New(r, 2), buf.New(other, 2)
	Store(a, sec.Of(0), sec.Of(4), 0, 1)
	Put(b, sec.Of(1), sec.Of(5), 1, 1, 2)
	wantHeld(t, a, []int{4, 0}, "a")
	wantHeld(t, b, []int{0, 5}, "b")
	wantHeld(t, c, []int{0, 0}, "c")
	wantEvents(t, r, append(scanned(0, 1, 2, 2), scanned(1, 2, 2, 2)...), "both of one recorder")
	wantEvents(t, other, nil, "the other")
}

func text(t *testing.T) *ast.File {
	f, err := parser.ParseFile(token.NewFileSet(), "scan.go", nil, 0)
	if err != nil {
		t.Fatal(err)
	}
	return f
}

func TestItStandsOnNumSecAndBuf(t *testing.T) {
	own := []string{`"iter"`, `"cyanotype/num"`, `"cyanotype/sec"`, `"cyanotype/buf"`}
	for _, i := range text(t).Imports {
		if !slices.Contains(own, i.Path.Value) {
			t.Errorf("it stands on %s", i.Path.Value)
		}
	}
}

// The text holds no two words against each other but by masks, and opens none: so no branch hangs on a secret.
func TestNoBranchBySecrets(t *testing.T) {
	ast.Inspect(text(t), func(n ast.Node) bool {
		switch x := n.(type) {
		case *ast.SwitchStmt, *ast.TypeSwitchStmt, *ast.MapType:
			t.Error("a choice of some of many")
		case *ast.BinaryExpr:
			if x.Op == token.EQL || x.Op == token.NEQ {
				t.Error("a comparison")
			}
		case *ast.SelectorExpr:
			if x.Sel.Name == "Open" {
				t.Error("an opening")
			}
		}
		return true
	})
}

// A window is told by a range over a function; places are asked by sec.Sec.Equal as a method expression.
func TestWays(t *testing.T) {
	ranges, asks := 0, 0
	ast.Inspect(text(t), func(n ast.Node) bool {
		switch x := n.(type) {
		case *ast.RangeStmt:
			if call, ok := x.X.(*ast.CallExpr); ok {
				if f, ok := call.Fun.(*ast.Ident); ok && f.Name == "window" {
					ranges++
				}
			}
		case *ast.SelectorExpr:
			if of, ok := x.X.(*ast.SelectorExpr); ok && of.Sel.Name == "Sec" && x.Sel.Name == "Equal" {
				asks++
			}
		}
		return true
	})
	if ranges != 4 || asks == 0 {
		t.Errorf("%d ranges over a window, %d method expressions", ranges, asks)
	}
}
