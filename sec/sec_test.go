package sec

import (
	"go/ast"
	"go/parser"
	"go/token"
	"math"
	"math/big"
	"reflect"
	"slices"
	"strings"
	"testing"

	"cyanotype/api"
	"cyanotype/trace"
)

// numbers are the edges of 64 bits, what stands beside them, and some of no pattern.
func numbers() []int {
	l := []int{
		0, 1, -1, 2, -2, 3, 5, -5, 63, 64, 255, -256, 1 << 31, -1 << 31, 1<<32 - 1, 1 << 32, -1 << 32,
		3037000499, 3037000500, 1 << 62, 1<<62 - 1, -1 << 62, -1<<62 - 1,
		math.MaxInt, math.MaxInt - 1, math.MinInt, math.MinInt + 1, 0x5555555555555555, -0x5555555555555556,
	}
	x := uint64(88172645463325252)
	for range 40 {
		x ^= x << 13
		x ^= x >> 7
		x ^= x << 17
		l = append(l, int(x), int(x)>>(x%61))
	}
	return l
}

// shifts are numbers of places: within a word, at its edges, and beyond them.
func shifts() []int {
	l := []int{math.MinInt, -1 << 32, -64, -63, -1, 64, 65, 127, 128, 1 << 32, 1<<32 + 1, math.MaxInt}
	for n := range 64 {
		l = append(l, n)
	}
	return l
}

// modulo is a number of any size as one of 64 bits.
func modulo(x *big.Int) int {
	m := new(big.Int).Lsh(big.NewInt(1), 64)
	r := new(big.Int).Mod(x, m)
	return int(r.Uint64())
}

func of(n int) *big.Int { return big.NewInt(int64(n)) }

// mask is what a mask holds.
func mask(so bool) int {
	if so {
		return -1
	}
	return 0
}

// want ends a test at its first wrong answer, as there may be thousands.
func want(t *testing.T, got Sec, n int, what string, of ...int) {
	t.Helper()
	if x := got.Open(nil); x != n {
		t.Fatalf("%s of %v holds %d, not %d", what, of, x, n)
	}
}

// pairs calls for each two of the numbers.
func pairs(call func(a, b int)) {
	l := numbers()
	for _, a := range l {
		for _, b := range l {
			call(a, b)
		}
	}
}

func TestOfHoldsItsNumber(t *testing.T) {
	for _, n := range numbers() {
		want(t, Of(n), n, "Of", n)
	}
	want(t, Sec{}, 0, "the zero value")
}

func TestSumsDifferencesAndProductsAreModulo(t *testing.T) {
	pairs(func(a, b int) {
		want(t, Of(a).Add(Of(b)), modulo(new(big.Int).Add(of(a), of(b))), "Add", a, b)
		want(t, Of(a).Sub(Of(b)), modulo(new(big.Int).Sub(of(a), of(b))), "Sub", a, b)
		want(t, Of(a).Mul(Of(b)), modulo(new(big.Int).Mul(of(a), of(b))), "Mul", a, b)
	})
}

func TestSumsDifferencesAndProductsGoRound(t *testing.T) {
	want(t, Of(math.MaxInt).Add(Of(1)), math.MinInt, "Add", math.MaxInt, 1)
	want(t, Of(math.MinInt).Add(Of(-1)), math.MaxInt, "Add", math.MinInt, -1)
	want(t, Of(math.MinInt).Add(Of(math.MinInt)), 0, "Add", math.MinInt, math.MinInt)
	want(t, Of(math.MinInt).Sub(Of(1)), math.MaxInt, "Sub", math.MinInt, 1)
	want(t, Of(math.MaxInt).Sub(Of(-1)), math.MinInt, "Sub", math.MaxInt, -1)
	want(t, Of(0).Sub(Of(math.MinInt)), math.MinInt, "Sub", 0, math.MinInt)
	want(t, Of(math.MaxInt).Mul(Of(2)), -2, "Mul", math.MaxInt, 2)
	want(t, Of(math.MinInt).Mul(Of(-1)), math.MinInt, "Mul", math.MinInt, -1)
	want(t, Of(math.MaxInt).Mul(Of(math.MaxInt)), 1, "Mul", math.MaxInt, math.MaxInt)
	want(t, Of(1<<32).Mul(Of(1<<32)), 0, "Mul", 1<<32, 1<<32)
}

// bitwise is a number whose bits are told one by one from those of two others.
func bitwise(a, b int, one func(x, y uint64) bool) int {
	r := uint64(0)
	for i := range 64 {
		if one(uint64(a)>>i&1, uint64(b)>>i&1) {
			r += 1 << i
		}
	}
	return int(r)
}

func TestBitByBit(t *testing.T) {
	pairs(func(a, b int) {
		want(t, Of(a).And(Of(b)), bitwise(a, b, func(x, y uint64) bool { return x+y == 2 }), "And", a, b)
		want(t, Of(a).Or(Of(b)), bitwise(a, b, func(x, y uint64) bool { return x+y > 0 }), "Or", a, b)
		want(t, Of(a).Xor(Of(b)), bitwise(a, b, func(x, y uint64) bool { return x+y == 1 }), "Xor", a, b)
	})
	for _, a := range numbers() {
		want(t, Of(a).Not(), bitwise(a, 0, func(x, _ uint64) bool { return x == 0 }), "Not", a)
	}
	want(t, Of(0).Not(), -1, "Not", 0)
	want(t, Of(math.MaxInt).Not(), math.MinInt, "Not", math.MaxInt)
}

func TestNegIsZeroLessIt(t *testing.T) {
	for _, a := range numbers() {
		want(t, Of(a).Neg(), modulo(new(big.Int).Neg(of(a))), "Neg", a)
		want(t, Of(a).Neg().Add(Of(a)), 0, "Neg and Add", a)
	}
	want(t, Of(5).Neg(), -5, "Neg", 5)
	want(t, Of(math.MaxInt).Neg(), math.MinInt+1, "Neg", math.MaxInt)
	want(t, Of(math.MinInt).Neg(), math.MinInt, "Neg", math.MinInt)
}

func TestShiftsAreByPowersOfTwo(t *testing.T) {
	for _, n := range shifts() {
		power := new(big.Int).Lsh(big.NewInt(1), uint(min(max(n, 0), 63)))
		for _, a := range numbers() {
			want(t, Of(a).Shl(n), modulo(new(big.Int).Mul(of(a), power)), "Shl", a, n)
			// Div of a number above 0 rounds down, of numbers below 0 too.
			want(t, Of(a).Shr(n), modulo(new(big.Int).Div(of(a), power)), "Shr", a, n)
		}
	}
}

func TestShiftsAtTheirEdges(t *testing.T) {
	for _, n := range []int{math.MinInt, -64, -1, 0} {
		want(t, Of(-7).Shl(n), -7, "Shl", -7, n)
		want(t, Of(-7).Shr(n), -7, "Shr", -7, n)
	}
	for _, n := range []int{63, 64, 65, 128, 1 << 32, math.MaxInt} {
		want(t, Of(1).Shl(n), math.MinInt, "Shl", 1, n)
		want(t, Of(2).Shl(n), 0, "Shl", 2, n)
		want(t, Of(-1).Shl(n), math.MinInt, "Shl", -1, n)
		want(t, Of(math.MaxInt).Shr(n), 0, "Shr", math.MaxInt, n)
		want(t, Of(-1).Shr(n), -1, "Shr", -1, n)
		want(t, Of(math.MinInt).Shr(n), -1, "Shr", math.MinInt, n)
	}
	want(t, Of(-7).Shl(1), -14, "Shl", -7, 1)
	want(t, Of(1<<62).Shl(1), math.MinInt, "Shl", 1<<62, 1)
	want(t, Of(-7).Shr(1), -4, "Shr", -7, 1)
	want(t, Of(7).Shr(1), 3, "Shr", 7, 1)
	want(t, Of(math.MinInt).Shr(62), -2, "Shr", math.MinInt, 62)
}

func TestLessAndEqualAreMasks(t *testing.T) {
	pairs(func(a, b int) {
		want(t, Of(a).Less(Of(b)), mask(a < b), "Less", a, b)
		want(t, Of(a).Equal(Of(b)), mask(a == b), "Equal", a, b)
	})
	for _, a := range numbers() {
		want(t, Of(a).Less(Of(a)), 0, "Less", a, a)
		want(t, Of(a).Equal(Of(a)), -1, "Equal", a, a)
		for i := range 64 {
			want(t, Of(a).Equal(Of(a^1<<i)), 0, "Equal", a, a^1<<i)
		}
	}
}

func TestLessWhereTheDifferenceGoesRound(t *testing.T) {
	want(t, Of(math.MinInt).Less(Of(math.MaxInt)), -1, "Less", math.MinInt, math.MaxInt)
	want(t, Of(math.MaxInt).Less(Of(math.MinInt)), 0, "Less", math.MaxInt, math.MinInt)
	want(t, Of(math.MinInt).Less(Of(1)), -1, "Less", math.MinInt, 1)
	want(t, Of(1).Less(Of(math.MinInt)), 0, "Less", 1, math.MinInt)
	want(t, Of(0).Less(Of(math.MinInt)), 0, "Less", 0, math.MinInt)
	want(t, Of(-2).Less(Of(math.MaxInt)), -1, "Less", -2, math.MaxInt)
	want(t, Of(math.MaxInt).Less(Of(-2)), 0, "Less", math.MaxInt, -2)
}

func TestSelectIsBitByBit(t *testing.T) {
	pairs(func(a, b int) {
		want(t, Select(Of(-1), Of(a), Of(b)), a, "Select by -1", a, b)
		want(t, Select(Of(0), Of(a), Of(b)), b, "Select by 0", a, b)
		for _, m := range numbers() {
			bits := bitwise(m, a, func(x, y uint64) bool { return x == 1 && y == 1 })
			bits += bitwise(m, b, func(x, y uint64) bool { return x == 0 && y == 1 })
			want(t, Select(Of(m), Of(a), Of(b)), bits, "Select", m, a, b)
		}
	})
	want(t, Select(Of(12), Of(10), Of(5)), 9, "Select", 12, 10, 5)
	want(t, Select(Of(1), Of(-1), Of(0)), 1, "Select", 1, -1, 0)
}

func clipped(a, low, high int) int {
	if a < low {
		return low
	}
	if a > high {
		return high
	}
	return a
}

func TestClip(t *testing.T) {
	pairs(func(a, low int) {
		for _, high := range numbers() {
			want(t, Of(a).Clip(low, high), clipped(a, low, high), "Clip", a, low, high)
		}
	})
	for a := -3; a <= 9; a++ {
		want(t, Of(a).Clip(0, 6), min(max(a, 0), 6), "Clip", a, 0, 6)
	}
}

func TestClipWithLowAboveHigh(t *testing.T) {
	for a := -2; a < 5; a++ {
		want(t, Of(a).Clip(5, 2), 5, "Clip", a, 5, 2)
	}
	for a := 5; a < 9; a++ {
		want(t, Of(a).Clip(5, 2), 2, "Clip", a, 5, 2)
	}
	want(t, Of(0).Clip(math.MaxInt, math.MinInt), math.MaxInt, "Clip", 0, math.MaxInt, math.MinInt)
	want(t, Of(math.MaxInt).Clip(math.MaxInt, math.MinInt), math.MinInt, "Clip", math.MaxInt, math.MaxInt, math.MinInt)
}

func TestAbs(t *testing.T) {
	for _, a := range numbers() {
		want(t, Of(a).Abs(), modulo(new(big.Int).Abs(of(a))), "Abs", a)
	}
	want(t, Of(-5).Abs(), 5, "Abs", -5)
	want(t, Of(5).Abs(), 5, "Abs", 5)
	want(t, Of(0).Abs(), 0, "Abs", 0)
	want(t, Of(math.MinInt).Abs(), math.MinInt, "Abs", math.MinInt)
	want(t, Of(math.MinInt+1).Abs(), math.MaxInt, "Abs", math.MinInt+1)
}

func TestOpenTellsAndRecords(t *testing.T) {
	r := trace.New()
	var events []api.Event
	for _, n := range numbers() {
		if got := Of(n).Open(r); got != n {
			t.Errorf("Open of %d tells %d", n, got)
		}
		events = append(events, api.Event{Kind: api.Open})
		if !slices.Equal(r.Events(), events) {
			t.Fatalf("after %d openings the events are %v", len(events), r.Events())
		}
	}
}

func TestOpenWithoutRecorder(t *testing.T) {
	for _, n := range numbers() {
		if got := Of(n).Open(nil); got != n {
			t.Errorf("Open of %d tells %d", n, got)
		}
	}
}

// A secret is a value: to reckon with it, or to open it, leaves it as it was.
func TestASecretStaysAsItIs(t *testing.T) {
	for _, n := range numbers() {
		a, b := Of(n), Of(3)
		a.Add(b).Sub(a).Mul(a).And(a).Or(a).Xor(b).Not().Neg().Shl(1).Shr(1).Less(a).Equal(b).Clip(1, 2).Abs()
		Select(a, b, a)
		want(t, a, n, "what was reckoned with", n)
		want(t, a, n, "what was opened", n)
		want(t, b, 3, "what was reckoned with", 3)
	}
}

func TestReckoningWithSecretsIsReckoningWithNumbers(t *testing.T) {
	pairs(func(a, b int) {
		x, y := Of(a), Of(b)
		larger := Select(x.Less(y), y, x)
		smaller := Select(x.Less(y), x, y)
		want(t, larger, max(a, b), "the larger", a, b)
		want(t, smaller, min(a, b), "the smaller", a, b)
		want(t, x.Add(y).Mul(x.Sub(y)), a*a-b*b, "the sum by the difference", a, b)
		c := clipped(a*b>>16, -128, 127)
		want(t, x.Mul(y).Shr(16).Clip(-128, 127).Abs(), max(c, -c), "a product, clipped, unsigned", a, b)
	})
}

func TestTheExamples(t *testing.T) {
	m := Of(3).Less(Of(5))
	want(t, m, -1, "Less", 3, 5)
	want(t, Select(m, Of(1), Of(2)), 1, "Select", -1, 1, 2)
}

// Nothing but Open tells: what else there is to be asked answers a secret again, and no field is to be read.
func TestNothingButOpenTells(t *testing.T) {
	secret := reflect.TypeFor[Sec]()
	var names []string
	for i := range secret.NumMethod() {
		m := secret.Method(i)
		names = append(names, m.Name)
		if m.Name == "Open" {
			continue
		}
		if m.Type.NumOut() != 1 || m.Type.Out(0) != secret {
			t.Errorf("%s answers something beside a secret", m.Name)
		}
	}
	all := "Abs Add And Clip Equal Less Mul Neg Not Open Or Shl Shr Sub Xor"
	if got := strings.Join(names, " "); got != all {
		t.Errorf("a secret has the methods %s", got)
	}
	for i := range secret.NumField() {
		if secret.Field(i).IsExported() {
			t.Errorf("field %s is to be read", secret.Field(i).Name)
		}
	}
}

// branching says why a piece of the program may branch by a secret, take a place by it, or take longer by it.
func branching(n ast.Node) string {
	switch x := n.(type) {
	case *ast.IfStmt, *ast.ForStmt, *ast.RangeStmt, *ast.SwitchStmt, *ast.TypeSwitchStmt, *ast.SelectStmt, *ast.BranchStmt:
		return "a branch"
	case *ast.IndexExpr, *ast.SliceExpr:
		return "an index"
	case *ast.BinaryExpr:
		switch x.Op {
		case token.LAND, token.LOR, token.EQL, token.NEQ, token.LSS, token.LEQ, token.GTR, token.GEQ:
			return "a comparison"
		case token.QUO, token.REM:
			return "a division"
		}
	}
	return ""
}

// text is the program's text.
func text(t *testing.T) (*token.FileSet, *ast.File) {
	files := token.NewFileSet()
	f, err := parser.ParseFile(files, "sec.go", nil, 0)
	if err != nil {
		t.Fatal(err)
	}
	return files, f
}

func TestItStandsOnTraceAlone(t *testing.T) {
	_, f := text(t)
	for _, i := range f.Imports {
		if i.Path.Value != `"cyanotype/trace"` {
			t.Errorf("it stands on %s", i.Path.Value)
		}
	}
}

// The program's text has nothing at all that could branch, or tell an index, by what a secret holds.
func TestNothingBranches(t *testing.T) {
	files, f := text(t)
	ast.Inspect(f, func(n ast.Node) bool {
		if n != nil {
			if why := branching(n); why != "" {
				t.Errorf("%s: %s", files.Position(n.Pos()), why)
			}
		}
		return true
	})
}
