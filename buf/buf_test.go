package buf

import (
	"go/ast"
	"go/parser"
	"go/token"
	"math"
	"slices"
	"testing"

	"cyanotype/api"
	"cyanotype/sec"
	"cyanotype/trace"
)

// numbers are some that a word may hold, the edges of 64 bits among them.
func numbers() []int {
	return []int{7, 0, -1, 255, 256, -256, 1 << 31, -1 << 32, math.MaxInt, math.MinInt, 1, 2, 2}
}

// secrets are words that hold the numbers.
func secrets(l []int) []sec.Sec {
	var words []sec.Sec
	for _, n := range l {
		words = append(words, sec.Of(n))
	}
	return words
}

// told is what words hold, asked without a recorder, so that no event comes of asking.
func told(words []sec.Sec) []int {
	var l []int
	for _, w := range words {
		l = append(l, w.Open(nil))
	}
	return l
}

// beyond are places that a buffer of so many words has not.
func beyond(n int) []int {
	return []int{-1, -2, -n, -n - 1, n, n + 1, 2*n + 1, 1 << 20, 1<<20 + 1, 1 << 32, 1<<32 + 1, -1 << 32, math.MaxInt, math.MinInt}
}

func idx(n int) api.Event { return api.Event{Kind: api.Idx, N: n} }
func open() api.Event     { return api.Event{Kind: api.Open} }

func wantEvents(t *testing.T, what string, r *trace.Recorder, want ...api.Event) {
	t.Helper()
	if got := r.Events(); !slices.Equal(got, want) {
		t.Fatalf("%s: events %v, want %v", what, got, want)
	}
}

func wantHeld(t *testing.T, what string, b *Buf, want []int) {
	t.Helper()
	if b == nil {
		t.Fatalf("%s: nil", what)
	}
	if got := told(b.Words()); !slices.Equal(got, want) {
		t.Fatalf("%s: held %v, want %v", what, got, want)
	}
	if b.Len() != len(want) {
		t.Fatalf("%s: Len %d, want %d", what, b.Len(), len(want))
	}
}

func wantWord(t *testing.T, what string, s sec.Sec, want int) {
	t.Helper()
	if got := s.Open(nil); got != want {
		t.Fatalf("%s: %d, want %d", what, got, want)
	}
}

func TestExample(t *testing.T) {
	r := trace.New()
	b := New(r, 2)
	b.Set(1, sec.Of(7))
	wantWord(t, "Get(1)", b.Get(1), 7)
	wantEvents(t, "two events", r, idx(1), idx(1))
}

func TestNewHoldsNoughts(t *testing.T) {
	for _, n := range []int{0, 1, 2, 3, 64, 1<<20 - 1, 1 << 20} {
		r := trace.New()
		b := New(r, n)
		if b == nil {
			t.Fatalf("New of %d: nil", n)
		}
		if b.Len() != n {
			t.Fatalf("New of %d: Len %d", n, b.Len())
		}
		words := b.Words()
		if len(words) != n {
			t.Fatalf("New of %d: %d words", n, len(words))
		}
		for i, w := range words {
			if w.Open(nil) != 0 {
				t.Fatalf("New of %d: word %d holds %d", n, i, w.Open(nil))
			}
		}
		if b.Trace() != r {
			t.Fatalf("New of %d: another recorder", n)
		}
		wantEvents(t, "New, Len, Words, Trace", r)
	}
}

func TestNewBeyondBounds(t *testing.T) {
	for _, n := range []int{-1, -2, -1 << 20, -1 << 32, math.MinInt, 1<<20 + 1, 1<<20 + 2, 1 << 21, 1 << 32, 1<<32 + 1, math.MaxInt} {
		r := trace.New()
		if b := New(r, n); b != nil {
			t.Fatalf("New of %d: %d words, want nil", n, b.Len())
		}
		wantEvents(t, "New beyond its bounds", r)
	}
}

func TestOfHoldsWords(t *testing.T) {
	for n := range len(numbers()) + 1 {
		l := numbers()[:n]
		r := trace.New()
		b := Of(r, secrets(l))
		wantHeld(t, "Of", b, l)
		if b.Trace() != r {
			t.Fatal("Of: another recorder")
		}
		wantEvents(t, "Of, Words", r)
	}
}

func TestFromHoldsBytes(t *testing.T) {
	var bytes []byte
	var l []int
	for n := range 257 {
		r := trace.New()
		b := From(r, bytes)
		wantHeld(t, "From", b, l)
		if b.Trace() != r {
			t.Fatal("From: another recorder")
		}
		wantEvents(t, "From, Words", r)
		bytes = append(bytes, byte(255-n))
		l = append(l, int(byte(255-n)))
	}
}

func TestOfAndFromNothing(t *testing.T) {
	for what, b := range map[string]*Buf{
		"Of nil":          Of(nil, nil),
		"Of an empty":     Of(nil, []sec.Sec{}),
		"From nil":        From(nil, nil),
		"From an empty":   From(nil, []byte{}),
		"Of behind":       Of(nil, secrets(numbers())[:0]),
		"From behind":     From(nil, []byte{1, 2, 3}[:0]),
		"New of 0 places": New(nil, 0),
	} {
		wantHeld(t, what, b, nil)
		if len(b.Open()) != 0 {
			t.Fatalf("%s: opened", what)
		}
	}
}

func TestOfAndFromAtTheBound(t *testing.T) {
	words := make([]sec.Sec, 1<<20+1)
	bytes := make([]byte, 1<<20+1)
	last := 1<<20 - 1
	words[last], bytes[last] = sec.Of(-9), 9
	r := trace.New()
	if Of(r, words) != nil || From(r, bytes) != nil {
		t.Fatal("more than 2^20: want nil")
	}
	of, from := Of(r, words[:1<<20]), From(r, bytes[:1<<20])
	wantEvents(t, "Of and From at the bound", r)
	if of.Len() != 1<<20 || from.Len() != 1<<20 {
		t.Fatalf("2^20: Len %d, %d", of.Len(), from.Len())
	}
	wantWord(t, "the last of words", of.Get(last), -9)
	wantWord(t, "the last of bytes", from.Get(last), 9)
	wantEvents(t, "the last twice", r, idx(last), idx(last))
}

func TestGetAtPlaces(t *testing.T) {
	r := trace.New()
	b := Of(r, secrets(numbers()))
	var seen []api.Event
	for _, i := range []int{12, 0, 0, 5, 8, 9, 1, 12} {
		wantWord(t, "Get", b.Get(i), numbers()[i])
		seen = append(seen, idx(i))
		wantEvents(t, "Get", r, seen...)
	}
	wantHeld(t, "after Get", b, numbers())
}

func TestGetBeyond(t *testing.T) {
	for _, l := range [][]int{nil, {5}, numbers()} {
		r := trace.New()
		b := Of(r, secrets(l))
		for _, i := range beyond(len(l)) {
			if 0 <= i && i < len(l) {
				continue
			}
			wantWord(t, "Get beyond", b.Get(i), 0)
		}
		wantEvents(t, "Get beyond", r)
		wantHeld(t, "after Get beyond", b, l)
	}
}

func TestSetAtPlaces(t *testing.T) {
	r := trace.New()
	b := New(r, 4)
	held := []int{0, 0, 0, 0}
	var seen []api.Event
	for k, n := range numbers() {
		i := (k*3 + 3) % 4
		b.Set(i, sec.Of(n))
		held[i] = n
		seen = append(seen, idx(i))
		wantEvents(t, "Set", r, seen...)
		wantHeld(t, "Set", b, held)
	}
}

func TestSetBeyond(t *testing.T) {
	for _, l := range [][]int{nil, {5}, numbers()} {
		r := trace.New()
		b := Of(r, secrets(l))
		for _, i := range beyond(len(l)) {
			if 0 <= i && i < len(l) {
				continue
			}
			b.Set(i, sec.Of(77))
			wantHeld(t, "after Set beyond", b, l)
		}
		wantEvents(t, "Set beyond", r)
	}
}

// What is set is got; each place is seen, whatever the words hold.
func TestSetIsGot(t *testing.T) {
	run := func(add int) *trace.Recorder {
		r := trace.New()
		b := New(r, 50)
		for k := range 200 {
			i := k * 7 % 50
			b.Set(i, sec.Of(k+add))
			wantWord(t, "set and got", b.Get(i), k+add)
		}
		return r
	}
	a, b := run(0), run(-1000)
	if !trace.Same(a, b) || a.Count(api.Idx) != 400 || len(a.Events()) != 400 {
		t.Fatal("other words, another trace")
	}
}

func TestWordsAreNewMemory(t *testing.T) {
	r := trace.New()
	b := Of(r, secrets(numbers()))
	one, two := b.Words(), b.Words()
	for i := range one {
		one[i] = sec.Of(99)
	}
	_ = append(one[:3], secrets([]int{98, 97})...)
	wantHeld(t, "after a change of Words", b, numbers())
	if !slices.Equal(told(two), numbers()) {
		t.Fatal("Words share memory with one another")
	}
	b.Set(0, sec.Of(-7))
	wantWord(t, "an answer of before", two[0], numbers()[0])
	wantEvents(t, "Words give no event", r, idx(0))
}

func TestArgumentsAreNeitherKeptNorChanged(t *testing.T) {
	words, bytes := secrets([]int{1, 2, 3, 4}), []byte{1, 2, 3, 4}
	of, from := Of(nil, words[:3]), From(nil, bytes[:3])
	words[0], bytes[0] = sec.Of(50), 50
	wantHeld(t, "Of, its list changed", of, []int{1, 2, 3})
	wantHeld(t, "From, its list changed", from, []int{1, 2, 3})
	for i := range 4 {
		of.Set(i, sec.Of(60))
		from.Set(i, sec.Of(60))
	}
	if !slices.Equal(told(words), []int{50, 2, 3, 4}) || !slices.Equal(bytes, []byte{50, 2, 3, 4}) {
		t.Fatal("Set changed what was handed in")
	}
}

func TestOpenTellsAll(t *testing.T) {
	for n := range len(numbers()) + 1 {
		l := numbers()[:n]
		r := trace.New()
		b := Of(r, secrets(l))
		seen := slices.Repeat([]api.Event{open()}, n)
		got := b.Open()
		if !slices.Equal(got, l) {
			t.Fatalf("Open: %v, want %v", got, l)
		}
		wantEvents(t, "Open", r, seen...)
		for i := range got {
			got[i] = 99
		}
		if again := b.Open(); !slices.Equal(again, l) {
			t.Fatalf("Open again: %v, want %v", again, l)
		}
		wantEvents(t, "Open again", r, append(seen, seen...)...)
	}
}

func TestOpenAfterSet(t *testing.T) {
	r := trace.New()
	b := From(r, []byte{255, 0, 128})
	b.Set(1, sec.Of(-3))
	if got := b.Open(); !slices.Equal(got, []int{255, -3, 128}) {
		t.Fatalf("Open: %v", got)
	}
	wantEvents(t, "Set, Open", r, idx(1), open(), open(), open())
}

func TestNilRecorder(t *testing.T) {
	for _, b := range []*Buf{New(nil, 3), Of(nil, secrets([]int{0, 0, 0})), From(nil, []byte{0, 0, 0})} {
		if b.Trace() != nil {
			t.Fatal("a recorder of nowhere")
		}
		b.Set(2, sec.Of(5))
		b.Set(3, sec.Of(6))
		wantWord(t, "Get(2)", b.Get(2), 5)
		wantWord(t, "Get(3)", b.Get(3), 0)
		wantHeld(t, "without a recorder", b, []int{0, 0, 5})
		if got := b.Open(); !slices.Equal(got, []int{0, 0, 5}) {
			t.Fatalf("Open: %v", got)
		}
	}
}

func TestNilBuf(t *testing.T) {
	var b *Buf
	for _, i := range append(beyond(0), 0, 1) {
		b.Set(i, sec.Of(5))
		wantWord(t, "Get of nil", b.Get(i), 0)
	}
	if b.Len() != 0 || b.Trace() != nil || len(b.Words()) != 0 || len(b.Open()) != 0 {
		t.Fatal("a nil Buf has words or a recorder")
	}
}

// Objects know nothing of one another but of the recorder that they were made with.
func TestBuffersApart(t *testing.T) {
	r, other := trace.New(), trace.New()
	a, b, c := New(r, 2), New(r, 2), New(other, 2)
	a.Set(0, sec.Of(1))
	b.Set(1, sec.Of(2))
	c.Set(0, sec.Of(3))
	wantHeld(t, "a", a, []int{1, 0})
	wantHeld(t, "b", b, []int{0, 2})
	wantHeld(t, "c", c, []int{3, 0})
	wantEvents(t, "both of one recorder", r, idx(0), idx(1))
	wantEvents(t, "one of the other", other, idx(0))
}

// Words are laid by a range over an integer; all are opened by sec.Sec.Open as a method expression.
func TestWays(t *testing.T) {
	file, err := parser.ParseFile(token.NewFileSet(), "buf.go", nil, 0)
	if err != nil {
		t.Fatal(err)
	}
	for _, name := range []string{"Of", "From"} {
		if !rangesOverLen(function(file, name)) {
			t.Errorf("%s: no range over an integer", name)
		}
	}
	if !takesOpen(function(file, "Open")) {
		t.Error("Open: no method expression sec.Sec.Open")
	}
}

func function(file *ast.File, name string) *ast.FuncDecl {
	for _, d := range file.Decls {
		if f, ok := d.(*ast.FuncDecl); ok && f.Name.Name == name {
			return f
		}
	}
	return nil
}

// rangesOverLen says whether a function ranges over what a call of Len answers.
func rangesOverLen(f *ast.FuncDecl) bool {
	found := false
	ast.Inspect(f, func(n ast.Node) bool {
		if r, ok := n.(*ast.RangeStmt); ok {
			call, ok := r.X.(*ast.CallExpr)
			found = found || ok && named(call.Fun, "Len")
		}
		return true
	})
	return found
}

// takesOpen says whether a function takes Open of the type sec.Sec.
func takesOpen(f *ast.FuncDecl) bool {
	found := false
	ast.Inspect(f, func(n ast.Node) bool {
		if s, ok := n.(*ast.SelectorExpr); ok && s.Sel.Name == "Open" {
			found = found || named(s.X, "Sec")
		}
		return true
	})
	return found
}

func named(e ast.Expr, name string) bool {
	s, ok := e.(*ast.SelectorExpr)
	return ok && s.Sel.Name == name
}
