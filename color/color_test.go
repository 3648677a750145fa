package color

import (
	"go/ast"
	"go/parser"
	"go/token"
	"math"
	"slices"
	"testing"

	"cyanotype/sec"
)

// down is the chapter's DOWN, in other words than a shift: a quotient, one less where something is left below 0.
func down(n int) int {
	q, left := n/65536, n%65536
	if left < 0 {
		q--
	}
	return q
}

// held is a number clipped to 0 to 255.
func held(n int) int {
	return max(0, min(n, 255))
}

// lumaSums are the chapter's sums, of numbers 0 to 255.
func lumaSums(r, g, b int) [3]int {
	return [3]int{
		held(down(19595*r + 38470*g + 7471*b + 32768)),
		held(down(-11059*r - 21709*g + 32768*b + 8421375)),
		held(down(32768*r - 27439*g - 5329*b + 8421375)),
	}
}

// backSums are the chapter's sums of the way back, of numbers 0 to 255.
func backSums(y, cb, cr int) [3]int {
	return [3]int{
		held(y + down(91881*(cr-128)+32768)),
		held(y + down(-22554*(cb-128)-46802*(cr-128)+32768)),
		held(y + down(116130*(cb-128)+32768)),
	}
}

func luma(r, g, b int) [3]int {
	x, y, z := Luma(r, g, b)
	return [3]int{x, y, z}
}

func back(y, cb, cr int) [3]int {
	r, g, b := Back(y, cb, cr)
	return [3]int{r, g, b}
}

// hidden and shown open what comes out: not on the way, but behind it.
func hidden(r, g, b int) [3]int {
	return opened(Hidden(sec.Of(r), sec.Of(g), sec.Of(b)))
}

func shown(y, cb, cr int) [3]int {
	return opened(Shown(sec.Of(y), sec.Of(cb), sec.Of(cr)))
}

func opened(x, y, z sec.Sec) [3]int {
	return [3]int{x.Open(nil), y.Open(nil), z.Open(nil)}
}

// want ends a test at its first wrong answer, as there may be millions.
func want(t *testing.T, call string, got, expect, of [3]int) {
	if got != expect {
		t.Helper()
		t.Fatalf("%s%v = %v, want %v", call, of, got, expect)
	}
}

// bytes are some at both ends, about the middle, and within.
func bytes() []int {
	return []int{0, 1, 2, 3, 15, 16, 17, 31, 63, 64, 65, 85, 100, 126, 127, 128, 129, 130, 170, 191, 192, 200, 223, 239, 240, 252, 253, 254, 255}
}

// beyond are numbers that are no bytes: beside both ends, with a byte's lower bits, where a product with a weight would go round, and at both ends of an int.
func beyond() []int {
	return []int{
		-1, -2, -128, -255, -256, -257, -65536, -1 << 31, -1<<31 - 1, -1 << 32, -1<<32 + 100, -1 << 47, -1 << 48, -1 << 62, math.MinInt + 1, math.MinInt,
		256, 257, 384, 511, 512, 65535, 65536, 65536 + 100, 1<<31 - 1, 1 << 31, 1<<32 - 1, 1 << 32, 1<<32 + 100, 1 << 47, 1 << 48, 1 << 62, math.MaxInt - 1, math.MaxInt,
	}
}

// triples calls for each three of a list.
func triples(l []int, call func(a, b, c int)) {
	for _, a := range l {
		for _, b := range l {
			for _, c := range l {
				call(a, b, c)
			}
		}
	}
}

// cube calls for each three bytes.
func cube(call func(a, b, c int)) {
	for a := range 256 {
		for b := range 256 {
			for c := range 256 {
				call(a, b, c)
			}
		}
	}
}

func TestExamples(t *testing.T) {
	want(t, "Luma", luma(255, 255, 255), [3]int{255, 128, 128}, [3]int{255, 255, 255})
	want(t, "Back", back(255, 128, 128), [3]int{255, 255, 255}, [3]int{255, 128, 128})
	want(t, "Hidden", hidden(255, 255, 255), [3]int{255, 128, 128}, [3]int{255, 255, 255})
	want(t, "Shown", shown(255, 128, 128), [3]int{255, 255, 255}, [3]int{255, 128, 128})
}

// The tests' own sums are held against numbers that are written out.
func TestLumaWrittenOut(t *testing.T) {
	for _, c := range [][2][3]int{
		{{0, 0, 0}, {0, 128, 128}},
		{{255, 0, 0}, {76, 85, 255}},
		{{0, 255, 0}, {150, 44, 21}},
		{{0, 0, 255}, {29, 255, 107}},
		{{255, 255, 0}, {226, 0, 149}},
		{{0, 255, 255}, {179, 171, 0}},
		{{255, 0, 255}, {105, 212, 235}},
		{{1, 2, 3}, {2, 129, 127}},
		{{200, 100, 50}, {124, 86, 182}},
	} {
		in, out := c[0], c[1]
		want(t, "Luma", luma(in[0], in[1], in[2]), out, in)
		want(t, "the sums", lumaSums(in[0], in[1], in[2]), out, in)
		want(t, "Hidden", hidden(in[0], in[1], in[2]), out, in)
	}
}

func TestBackWrittenOut(t *testing.T) {
	for _, c := range [][2][3]int{
		{{0, 128, 128}, {0, 0, 0}},
		{{76, 85, 255}, {254, 0, 0}},
		{{150, 44, 21}, {0, 255, 1}},
		{{29, 255, 107}, {0, 0, 254}},
		{{0, 0, 0}, {0, 135, 0}},
		{{255, 255, 255}, {255, 121, 255}},
		{{0, 255, 255}, {178, 0, 225}},
		{{255, 0, 0}, {76, 255, 28}},
		{{100, 128, 129}, {101, 99, 100}},
		{{100, 129, 128}, {100, 100, 102}},
	} {
		in, out := c[0], c[1]
		want(t, "Back", back(in[0], in[1], in[2]), out, in)
		want(t, "the sums", backSums(in[0], in[1], in[2]), out, in)
		want(t, "Shown", shown(in[0], in[1], in[2]), out, in)
	}
}

// All bytes there are: a weight that is off by one may change few answers, and those anywhere.
func TestLumaOfAllBytes(t *testing.T) {
	cube(func(r, g, b int) {
		want(t, "Luma", luma(r, g, b), lumaSums(r, g, b), [3]int{r, g, b})
	})
}

func TestBackOfAllBytes(t *testing.T) {
	cube(func(y, cb, cr int) {
		want(t, "Back", back(y, cb, cr), backSums(y, cb, cr), [3]int{y, cb, cr})
	})
}

// DOWN goes down below 0 too: what is left there counts as one less, where a division would drop it.
func TestDownBelowZero(t *testing.T) {
	for _, c := range [][2]int{{0, 0}, {65535, 0}, {65536, 1}, {-1, -1}, {-65535, -1}, {-65536, -1}, {-65537, -2}} {
		if down(c[0]) != c[1] || numberOf(c[0]).shr(unit) != number(c[1]) {
			t.Errorf("DOWN of %d: %d, and %d, want %d", c[0], down(c[0]), numberOf(c[0]).shr(unit), c[1])
		}
	}
	for _, c := range [][2][3]int{
		// 91881 * -1 + 32768 is -59113: DOWN is -1, and so on for each of the parts
		{{200, 128, 127}, {199, 201, 200}},
		{{200, 127, 128}, {200, 200, 198}},
		{{200, 128, 129}, {201, 199, 200}},
		{{200, 130, 128}, {200, 199, 204}},
		{{200, 128, 126}, {197, 201, 200}},
	} {
		in, out := c[0], c[1]
		want(t, "Back", back(in[0], in[1], in[2]), out, in)
		want(t, "Shown", shown(in[0], in[1], in[2]), out, in)
	}
}

// A number that is no byte is as the end it lies beyond, in each place, for each of the calls.
func TestBeyondIsAsTheEnd(t *testing.T) {
	calls := []struct {
		name string
		call func(a, b, c int) [3]int
	}{{"Luma", luma}, {"Back", back}, {"Hidden", hidden}, {"Shown", shown}}
	for _, x := range calls {
		for _, n := range beyond() {
			end := 0
			if n > 0 {
				end = 255
			}
			for _, b := range bytes() {
				for _, c := range bytes() {
					want(t, x.name, x.call(n, b, c), x.call(end, b, c), [3]int{n, b, c})
					want(t, x.name, x.call(b, n, c), x.call(b, end, c), [3]int{b, n, c})
					want(t, x.name, x.call(b, c, n), x.call(b, c, end), [3]int{b, c, n})
				}
			}
		}
	}
}

func TestAllThreeBeyond(t *testing.T) {
	triples(beyond(), func(a, b, c int) {
		x, y, z := held(a), held(b), held(c)
		want(t, "Luma", luma(a, b, c), lumaSums(x, y, z), [3]int{a, b, c})
		want(t, "Back", back(a, b, c), backSums(x, y, z), [3]int{a, b, c})
		want(t, "Hidden", hidden(a, b, c), lumaSums(x, y, z), [3]int{a, b, c})
		want(t, "Shown", shown(a, b, c), backSums(x, y, z), [3]int{a, b, c})
	})
}

// All that is told lies in 0 to 255; both ends are reached by each part, and gone beyond by the sums of Back.
func TestToldIsAByte(t *testing.T) {
	for _, call := range []func(a, b, c int) [3]int{luma, back, hidden, shown} {
		low, high := [3]int{255, 255, 255}, [3]int{}
		triples(append(bytes(), beyond()...), func(a, b, c int) {
			for i, n := range call(a, b, c) {
				if n < 0 || n > 255 {
					t.Fatalf("%d is told of %d, %d, %d", n, a, b, c)
				}
				low[i], high[i] = min(low[i], n), max(high[i], n)
			}
		})
		if low != [3]int{} || high != [3]int{255, 255, 255} {
			t.Errorf("told is %v at least, and %v at most", low, high)
		}
	}
}

// What is secret is reckoned as what is not, part by part.
func TestHiddenIsLumaAndShownIsBack(t *testing.T) {
	triples(append(bytes(), beyond()...), func(a, b, c int) {
		want(t, "Hidden", hidden(a, b, c), luma(a, b, c), [3]int{a, b, c})
		want(t, "Shown", shown(a, b, c), back(a, b, c), [3]int{a, b, c})
	})
}

// Each byte is met in each place, with others that follow no pattern of its own.
func TestSecretsOfManyBytes(t *testing.T) {
	x := uint64(88172645463325252)
	for range 300000 {
		x ^= x << 13
		x ^= x >> 7
		x ^= x << 17
		a, b, c := int(x&255), int(x>>20&255), int(x>>40&255)
		want(t, "Hidden", hidden(a, b, c), lumaSums(a, b, c), [3]int{a, b, c})
		want(t, "Shown", shown(a, b, c), backSums(a, b, c), [3]int{a, b, c})
	}
}

func TestGraysThereAndBack(t *testing.T) {
	for n := range 256 {
		gray, pixel := [3]int{n, 128, 128}, [3]int{n, n, n}
		want(t, "Luma", luma(n, n, n), gray, [3]int{n, n, n})
		want(t, "Back", back(n, 128, 128), pixel, [3]int{n, 128, 128})
		want(t, "Hidden", hidden(n, n, n), gray, [3]int{n, n, n})
		want(t, "Shown", shown(n, 128, 128), pixel, [3]int{n, 128, 128})
	}
}

func TestThereAndBackIsNear(t *testing.T) {
	cube(func(r, g, b int) {
		x, y, z := Back(Luma(r, g, b))
		for i, off := range [3]int{x - r, y - g, z - b} {
			if off < -2 || off > 2 {
				t.Fatalf("part %d of %d, %d, %d is off by %d", i, r, g, b, off)
			}
		}
	})
}

func TestSecretsThereAndBackAreNear(t *testing.T) {
	triples(bytes(), func(r, g, b int) {
		told := opened(Shown(Hidden(sec.Of(r), sec.Of(g), sec.Of(b))))
		want(t, "Shown of Hidden", told, back(Luma(r, g, b)), [3]int{r, g, b})
		for i, off := range [3]int{told[0] - r, told[1] - g, told[2] - b} {
			if off < -2 || off > 2 {
				t.Fatalf("part %d of %d, %d, %d is off by %d", i, r, g, b, off)
			}
		}
	})
}

// What was handed in holds what it did, and a call is not changed by those ahead of it.
func TestNothingIsKept(t *testing.T) {
	given := [3]int{-7, 100, 999}
	r, g, b := sec.Of(given[0]), sec.Of(given[1]), sec.Of(given[2])
	first := opened(Hidden(r, g, b))
	Shown(r, g, b)
	Luma(1, 2, 3)
	Back(4, 5, 6)
	want(t, "the words handed in", opened(r, g, b), given, given)
	want(t, "Hidden again", opened(Hidden(r, g, b)), first, given)
	want(t, "a word without a number", opened(Hidden(sec.Sec{}, sec.Sec{}, sec.Sec{})), [3]int{0, 128, 128}, [3]int{})
}

func text(t *testing.T) *ast.File {
	f, err := parser.ParseFile(token.NewFileSet(), "color.go", nil, 0)
	if err != nil {
		t.Fatal(err)
	}
	return f
}

func TestItStandsOnNumAndSec(t *testing.T) {
	own := []string{`"cyanotype/num"`, `"cyanotype/sec"`}
	for _, i := range text(t).Imports {
		if !slices.Contains(own, i.Path.Value) {
			t.Errorf("it stands on %s", i.Path.Value)
		}
	}
}

// No call is handed a recorder that would tell of an opening: so the text is asked. It opens no word, and chooses nothing by one.
func TestNothingIsOpened(t *testing.T) {
	compared := []token.Token{token.EQL, token.NEQ, token.LSS, token.GTR, token.LEQ, token.GEQ, token.LAND, token.LOR}
	ast.Inspect(text(t), func(n ast.Node) bool {
		switch x := n.(type) {
		case *ast.IfStmt, *ast.ForStmt, *ast.SwitchStmt, *ast.TypeSwitchStmt, *ast.MapType:
			t.Error("a choice")
		case *ast.BinaryExpr:
			if slices.Contains(compared, x.Op) {
				t.Error("a comparison")
			}
		case *ast.SelectorExpr:
			if x.Sel.Name == "Open" {
				t.Error("an opening")
			}
		}
		return true
	})
}

// callers are the functions whose text names another.
func callers(f *ast.File, name string) []string {
	var l []string
	for _, d := range f.Decls {
		if fun, ok := d.(*ast.FuncDecl); ok && fun.Name.Name != name {
			ast.Inspect(fun.Body, func(n ast.Node) bool {
				if id, ok := n.(*ast.Ident); ok && id.Name == name {
					l = append(l, fun.Name.Name)
				}
				return true
			})
		}
	}
	return l
}

// One generic function does both ways; each hands it method expressions, in fields that are functions.
func TestWays(t *testing.T) {
	f := text(t)
	if got := callers(f, "turn"); !slices.Equal(got, []string{"Hidden", "Shown", "plainly"}) {
		t.Errorf("the one function is asked by %v", got)
	}
	if got := callers(f, "plainly"); !slices.Equal(got, []string{"Luma", "Back"}) {
		t.Errorf("its plain way is asked by %v", got)
	}
	generic, fields, handed := 0, 0, 0
	ast.Inspect(f, func(n ast.Node) bool {
		switch x := n.(type) {
		case *ast.FuncDecl:
			if x.Name.Name == "turn" && x.Type.TypeParams != nil {
				generic++
			}
		case *ast.TypeSpec:
			if x.Name.Name == "reckoner" && x.TypeParams != nil {
				generic++
			}
		case *ast.Field:
			if _, ok := x.Type.(*ast.FuncType); ok {
				fields++
			}
		case *ast.KeyValueExpr:
			if _, ok := x.Value.(*ast.SelectorExpr); ok {
				handed++
			}
		}
		return true
	})
	if generic != 2 || fields < 4 || handed < 8 {
		t.Errorf("%d generic, %d fields, %d handed", generic, fields, handed)
	}
}
