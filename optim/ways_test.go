package optim

import (
	"container/heap"
	"go/ast"
	"go/parser"
	"go/token"
	"slices"
	"testing"
)

// texts are the package's files, but for its tests.
func texts(t *testing.T) []*ast.File {
	t.Helper()
	var l []*ast.File
	for _, name := range []string{"optim.go", "tree.go"} {
		f, err := parser.ParseFile(token.NewFileSet(), name, nil, 0)
		if err != nil {
			t.Fatal(err)
		}
		l = append(l, f)
	}
	return l
}

func functions(t *testing.T) map[string]*ast.FuncDecl {
	t.Helper()
	l := map[string]*ast.FuncDecl{}
	for _, f := range texts(t) {
		for _, d := range f.Decls {
			if fun, ok := d.(*ast.FuncDecl); ok {
				l[fun.Name.Name] = fun
			}
		}
	}
	return l
}

func TestWhatItStandsOn(t *testing.T) {
	own := []string{`"cyanotype/api"`, `"cyanotype/huff"`, `"container/heap"`, `"slices"`, `"cmp"`}
	for _, f := range texts(t) {
		for _, i := range f.Imports {
			if !slices.Contains(own, i.Path.Value) {
				t.Errorf("it stands on %s", i.Path.Value)
			}
		}
	}
}

// No variable is kept.
func TestNothingStandsBesides(t *testing.T) {
	for _, f := range texts(t) {
		for _, d := range f.Decls {
			if g, ok := d.(*ast.GenDecl); ok && g.Tok == token.VAR {
				t.Error("a variable is kept")
			}
		}
	}
}

// isCall tells whether an expression is a call of a name, or of heap's name.
func isCall(e ast.Expr, of, name string) bool {
	call, ok := e.(*ast.CallExpr)
	if !ok {
		return false
	}
	switch fun := call.Fun.(type) {
	case *ast.Ident:
		return of == "" && fun.Name == name
	case *ast.SelectorExpr:
		x, ok := fun.X.(*ast.Ident)
		return ok && x.Name == of && fun.Sel.Name == name
	}
	return false
}

// Trees wait in a heap, and are taken from it by assertions: two each time, and one comes of them.
func TestTreesWaitInAHeap(t *testing.T) {
	taken, laid := 0, 0
	ast.Inspect(functions(t)["grown"], func(n ast.Node) bool {
		switch x := n.(type) {
		case *ast.TypeAssertExpr:
			if isCall(x.X, "heap", "Pop") {
				taken++
			}
		case *ast.CallExpr:
			if isCall(x, "heap", "Push") {
				laid++
			}
		}
		return true
	})
	if taken != 2 || laid != 1 {
		t.Errorf("%d trees are taken by an assertion, %d are laid", taken, laid)
	}
}

// Counts are laid by a copy.
func TestCountsAreLaidByACopy(t *testing.T) {
	copies := 0
	ast.Inspect(functions(t)["Best"], func(n ast.Node) bool {
		if x, ok := n.(*ast.CallExpr); ok && isCall(x, "", "copy") {
			copies++
		}
		return true
	})
	if copies != 1 {
		t.Errorf("%d copies", copies)
	}
}

// The heap gives trees by rising weights, of as light ones by falling numbers, whatever order they came in.
func TestTheHeapsOrder(t *testing.T) {
	for seed := range 100 {
		d := newDrawer(seed)
		trees := waiting{}
		var want []tree
		for number := range 1 + d.below(100) {
			one := tree{number: number, weight: 1 + d.below(10)}
			want = append(want, one)
		}
		for i := range want {
			j := d.below(i + 1)
			want[i], want[j] = want[j], want[i]
		}
		for _, one := range want {
			heap.Push(&trees, one)
		}
		slices.SortFunc(want, func(a, b tree) int { return (a.weight-b.weight)*1000 + b.number - a.number })
		for _, one := range want {
			if got := heap.Pop(&trees).(tree); got.number != one.number || got.weight != one.weight {
				t.Fatalf("tree %d of weight %d, not %d of %d", got.number, got.weight, one.number, one.weight)
			}
		}
	}
}
