package plane

import (
	"go/ast"
	"go/parser"
	"go/token"
	"slices"
	"testing"
)

func text(t *testing.T) *ast.File {
	f, err := parser.ParseFile(token.NewFileSet(), "plane.go", nil, 0)
	if err != nil {
		t.Fatal(err)
	}
	return f
}

func TestWhatItStandsOn(t *testing.T) {
	own := []string{`"cyanotype/api"`, `"cyanotype/num"`, `"cyanotype/sec"`, `"cyanotype/color"`, `"iter"`, `"math/bits"`, `"slices"`}
	for _, i := range text(t).Imports {
		if !slices.Contains(own, i.Path.Value) {
			t.Errorf("it stands on %s", i.Path.Value)
		}
	}
}

// No call is handed a recorder that would tell of an opening: so the text is asked.
func TestNothingIsOpened(t *testing.T) {
	ast.Inspect(text(t), func(n ast.Node) bool {
		if x, ok := n.(*ast.SelectorExpr); ok && x.Sel.Name == "Open" {
			t.Error("an opening")
		}
		return true
	})
}

func functions(f *ast.File) map[string]*ast.FuncDecl {
	l := map[string]*ast.FuncDecl{}
	for _, d := range f.Decls {
		if fun, ok := d.(*ast.FuncDecl); ok {
			l[fun.Name.Name] = fun
		}
	}
	return l
}

// names tells whether a function's text names another.
func names(fun *ast.FuncDecl, name string) bool {
	found := false
	ast.Inspect(fun.Body, func(n ast.Node) bool {
		if id, ok := n.(*ast.Ident); ok && id.Name == name {
			found = true
		}
		return true
	})
	return found
}

// Both ways are one function of words of any kind, which can be neither compared nor opened there; only the reckoner, of a generic type, does anything with them.
func TestBothWaysAreOne(t *testing.T) {
	l := functions(text(t))
	for one, both := range map[string][]string{"split": {"Split", "SplitSec"}, "join": {"Join", "JoinSec"}} {
		params := l[one].Type.TypeParams
		if params == nil || len(params.List) != 1 {
			t.Fatalf("%s is not generic", one)
		}
		if kind, ok := params.List[0].Type.(*ast.Ident); !ok || kind.Name != "any" {
			t.Errorf("%s knows its words", one)
		}
		for _, way := range both {
			if !names(l[way], one) {
				t.Errorf("%s goes its own way", way)
			}
		}
		if !names(l[one], "spots") {
			t.Errorf("%s is not told its places", one)
		}
	}
	found := false
	ast.Inspect(text(t), func(n ast.Node) bool {
		if x, ok := n.(*ast.TypeSpec); ok && x.Name.Name == "reckoner" && x.TypeParams != nil {
			found = true
		}
		return true
	})
	if !found {
		t.Error("no generic type")
	}
}
