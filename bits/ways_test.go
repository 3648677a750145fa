package bits

import (
	"go/ast"
	"go/parser"
	"go/token"
	"slices"
	"testing"
)

// text is the package's file, but for its tests.
func text(t *testing.T) *ast.File {
	t.Helper()
	f, err := parser.ParseFile(token.NewFileSet(), "bits.go", nil, 0)
	if err != nil {
		t.Fatal(err)
	}
	return f
}

func functions(t *testing.T) map[string]*ast.FuncDecl {
	t.Helper()
	l := map[string]*ast.FuncDecl{}
	for _, d := range text(t).Decls {
		if fun, ok := d.(*ast.FuncDecl); ok {
			l[fun.Name.Name] = fun
		}
	}
	return l
}

// It stands on api alone, and on the library.
func TestWhatItStandsOn(t *testing.T) {
	own := []string{`"cyanotype/api"`, `"bytes"`, `"iter"`}
	for _, i := range text(t).Imports {
		if !slices.Contains(own, i.Path.Value) {
			t.Errorf("it stands on %s", i.Path.Value)
		}
	}
}

// No variable is kept.
func TestNothingStandsBesides(t *testing.T) {
	for _, d := range text(t).Decls {
		if g, ok := d.(*ast.GenDecl); ok && g.Tok == token.VAR {
			t.Error("a variable is kept")
		}
	}
}

// ranged are the calls that a function ranges over.
func ranged(fun *ast.FuncDecl) []string {
	var l []string
	ast.Inspect(fun, func(n ast.Node) bool {
		if r, ok := n.(*ast.RangeStmt); ok {
			if c, ok := r.X.(*ast.CallExpr); ok {
				if id, ok := c.Fun.(*ast.Ident); ok {
					l = append(l, id.Name)
				}
			}
		}
		return true
	})
	return l
}

// Bits are told by a range over a function, those of codes as those of bytes.
func TestBitsAreToldByARange(t *testing.T) {
	all := functions(t)
	for name, want := range map[string]string{"Pack": "laid", "Peek": "standing"} {
		if got := ranged(all[name]); !slices.Equal(got, []string{want}) {
			t.Errorf("%s ranges over %v", name, got)
		}
		result := all[want].Type.Results.List[0].Type
		if x, ok := result.(*ast.IndexExpr); !ok || x.X.(*ast.SelectorExpr).Sel.Name != "Seq" {
			t.Errorf("%s is no function to range over", want)
		}
	}
}

// The loop that goes up to a marker is left by a label.
func TestALoopIsLeftByALabel(t *testing.T) {
	labels, leaves := map[string]bool{}, 0
	ast.Inspect(functions(t)["Unstuff"], func(n ast.Node) bool {
		switch x := n.(type) {
		case *ast.LabeledStmt:
			if _, ok := x.Stmt.(*ast.ForStmt); ok {
				labels[x.Label.Name] = true
			}
		case *ast.BranchStmt:
			if x.Tok == token.BREAK && x.Label != nil && labels[x.Label.Name] {
				leaves++
			}
		}
		return true
	})
	if len(labels) != 1 || leaves != 1 {
		t.Errorf("%d loops have a label, %d are left by it", len(labels), leaves)
	}
}
