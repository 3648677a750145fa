package dct

import (
	"go/ast"
	"go/parser"
	"go/token"
	"slices"
	"testing"
)

func text(t *testing.T) *ast.File {
	f, err := parser.ParseFile(token.NewFileSet(), "dct.go", nil, 0)
	if err != nil {
		t.Fatal(err)
	}
	return f
}

func TestWhatItStandsOn(t *testing.T) {
	own := []string{`"cyanotype/api"`, `"cyanotype/num"`, `"cyanotype/sec"`}
	for _, i := range text(t).Imports {
		if !slices.Contains(own, i.Path.Value) {
			t.Errorf("it stands on %s", i.Path.Value)
		}
	}
}

func functions(f *ast.File) map[string]*ast.FuncDecl {
	l := map[string]*ast.FuncDecl{}
	for _, d := range f.Decls {
		if fun, ok := d.(*ast.FuncDecl); ok {
			l[fun.Name.Name] = fun
		}
	}
	return l
}

// No call is handed a recorder that would tell of an opening: so the text is asked. It opens no word, and chooses by public places alone.
func TestNothingIsOpened(t *testing.T) {
	public := []string{"Factor", "isPlace"}
	compared := []token.Token{token.EQL, token.NEQ, token.LSS, token.GTR, token.LEQ, token.GEQ, token.LAND, token.LOR}
	for name, fun := range functions(text(t)) {
		ast.Inspect(fun, func(n ast.Node) bool {
			switch x := n.(type) {
			case *ast.IfStmt, *ast.ForStmt, *ast.SwitchStmt, *ast.TypeSwitchStmt, *ast.MapType:
				if !slices.Contains(public, name) {
					t.Errorf("a choice in %s", name)
				}
			case *ast.BinaryExpr:
				if slices.Contains(compared, x.Op) && !slices.Contains(public, name) {
					t.Errorf("a comparison in %s", name)
				}
			case *ast.SelectorExpr:
				if x.Sel.Name == "Open" {
					t.Errorf("an opening in %s", name)
				}
			}
			return true
		})
	}
}

// callers are the functions whose text names another.
func callers(f *ast.File, name string) []string {
	var l []string
	for _, d := range f.Decls {
		if fun, ok := d.(*ast.FuncDecl); ok && fun.Name.Name != name {
			ast.Inspect(fun.Body, func(n ast.Node) bool {
				if id, ok := n.(*ast.Ident); ok && id.Name == name {
					l = append(l, fun.Name.Name)
				}
				return true
			})
		}
	}
	return l
}

// Both ways are one function of words of any kind, which can be neither compared nor opened there.
func TestBothWaysAreOne(t *testing.T) {
	f := text(t)
	if got := callers(f, "turn"); !slices.Equal(got, []string{"Forward", "Back", "ForwardSec", "BackSec"}) {
		t.Errorf("the one function is asked by %v", got)
	}
	params := functions(f)["turn"].Type.TypeParams
	if params == nil || len(params.List) != 1 {
		t.Fatal("it is not generic")
	}
	if kind, ok := params.List[0].Type.(*ast.Ident); !ok || kind.Name != "any" {
		t.Error("it knows its words")
	}
}

// The one variable is the table: an array of arrays, of numbers that are written out.
func TestTheTableIsALiteral(t *testing.T) {
	var found []*ast.ValueSpec
	for _, d := range text(t).Decls {
		if g, ok := d.(*ast.GenDecl); ok && g.Tok == token.VAR {
			for _, s := range g.Specs {
				found = append(found, s.(*ast.ValueSpec))
			}
		}
	}
	if len(found) != 1 || len(found[0].Values) != 1 {
		t.Fatalf("%d variables", len(found))
	}
	table, ok := found[0].Values[0].(*ast.CompositeLit)
	if !ok || len(table.Elts) != 8 {
		t.Fatal("not a table of eight rows")
	}
	if outer, ok := table.Type.(*ast.ArrayType); !ok || outer.Len == nil {
		t.Error("not an array")
	} else if inner, ok := outer.Elt.(*ast.ArrayType); !ok || inner.Len == nil {
		t.Error("not of arrays")
	}
	for _, row := range table.Elts {
		if l, ok := row.(*ast.CompositeLit); !ok || len(l.Elts) != 8 {
			t.Error("a row that is not written out")
		}
	}
}
