package huff

import (
	"go/ast"
	"go/parser"
	"go/token"
	"slices"
	"testing"
)

// texts are the package's files, but for its tests.
func texts(t *testing.T) []*ast.File {
	t.Helper()
	var l []*ast.File
	for _, name := range []string{"huff.go", "standard.go"} {
		f, err := parser.ParseFile(token.NewFileSet(), name, nil, 0)
		if err != nil {
			t.Fatal(err)
		}
		l = append(l, f)
	}
	return l
}

func TestWhatItStandsOn(t *testing.T) {
	own := []string{`"cyanotype/api"`, `"cyanotype/sec"`, `"cyanotype/scan"`, `"iter"`}
	for _, f := range texts(t) {
		for _, i := range f.Imports {
			if !slices.Contains(own, i.Path.Value) {
				t.Errorf("it stands on %s", i.Path.Value)
			}
		}
	}
}

func functions(t *testing.T) map[string]*ast.FuncDecl {
	t.Helper()
	l := map[string]*ast.FuncDecl{}
	for _, f := range texts(t) {
		for _, d := range f.Decls {
			if fun, ok := d.(*ast.FuncDecl); ok {
				l[fun.Name.Name] = fun
			}
		}
	}
	return l
}

// No call is handed a recorder that would tell of an opening: so the text is asked. Nothing opens a word, and the two that are handed one choose nothing, and go over public codes to their end.
func TestNothingIsOpened(t *testing.T) {
	secret := []string{"FindSec", "CodeSec"}
	for name, fun := range functions(t) {
		ast.Inspect(fun, func(n ast.Node) bool {
			switch x := n.(type) {
			case *ast.SelectorExpr:
				if x.Sel.Name == "Open" {
					t.Errorf("an opening in %s", name)
				}
			case *ast.IfStmt, *ast.ForStmt, *ast.SwitchStmt, *ast.TypeSwitchStmt, *ast.BranchStmt, *ast.MapType:
				if slices.Contains(secret, name) {
					t.Errorf("a choice in %s", name)
				}
			case *ast.BinaryExpr:
				if slices.Contains(secret, name) && x.Op != token.SUB {
					t.Errorf("%s in %s", x.Op, name)
				}
			case *ast.ReturnStmt:
				if slices.Contains(secret, name) && n != fun.Body.List[len(fun.Body.List)-1] {
					t.Errorf("an early end in %s", name)
				}
			}
			return true
		})
	}
}

// Words are handed to those two alone.
func TestWhoIsHandedAWord(t *testing.T) {
	for name, fun := range functions(t) {
		for _, p := range fun.Type.Params.List {
			if s, ok := p.Type.(*ast.SelectorExpr); ok && s.Sel.Name == "Sec" && name != "FindSec" && name != "CodeSec" {
				t.Errorf("%s is handed a word", name)
			}
		}
	}
}

// ranged are the calls that a function ranges over.
func ranged(fun *ast.FuncDecl) []string {
	var l []string
	ast.Inspect(fun, func(n ast.Node) bool {
		if r, ok := n.(*ast.RangeStmt); ok {
			if c, ok := r.X.(*ast.CallExpr); ok {
				if id, ok := c.Fun.(*ast.Ident); ok {
					l = append(l, id.Name)
				}
			}
		}
		return true
	})
	return l
}

// Codes are laid by one function, which is ranged over wherever they are asked.
func TestCodesAreLaidByARange(t *testing.T) {
	all := functions(t)
	for name, want := range map[string]string{"Codes": "told", "Find": "told", "FindSec": "told", "CodeSec": "Codes", "told": "laid", "leavesOnes": "laid"} {
		if got := ranged(all[name]); !slices.Equal(got, []string{want}) {
			t.Errorf("%s ranges over %v", name, got)
		}
	}
	for _, name := range []string{"told", "laid"} {
		if x, ok := all[name].Type.Results.List[0].Type.(*ast.IndexListExpr); !ok || x.X.(*ast.SelectorExpr).Sel.Name != "Seq2" {
			t.Errorf("%s is no function to range over", name)
		}
	}
}

// The standard tables stand in a map that a function makes; the package keeps no variable.
func TestTablesStandInAMap(t *testing.T) {
	for _, f := range texts(t) {
		for _, d := range f.Decls {
			if g, ok := d.(*ast.GenDecl); ok && g.Tok == token.VAR {
				t.Error("a variable is kept")
			}
		}
	}
	standards := functions(t)["standards"]
	if standards == nil {
		t.Fatal("no tables")
	}
	if _, ok := standards.Type.Results.List[0].Type.(*ast.MapType); !ok {
		t.Error("the tables stand in no map")
	}
}
