package quant

import (
	"go/ast"
	"go/parser"
	"go/token"
	"slices"
	"testing"
)

func text(t *testing.T) *ast.File {
	f, err := parser.ParseFile(token.NewFileSet(), "quant.go", nil, 0)
	if err != nil {
		t.Fatal(err)
	}
	return f
}

func TestWhatItStandsOn(t *testing.T) {
	own := []string{`"cyanotype/api"`, `"cyanotype/num"`, `"cyanotype/sec"`, `"cyanotype/scan"`}
	for _, i := range text(t).Imports {
		if !slices.Contains(own, i.Path.Value) {
			t.Errorf("it stands on %s", i.Path.Value)
		}
	}
}

func functions(f *ast.File) map[string]*ast.FuncDecl {
	l := map[string]*ast.FuncDecl{}
	for _, d := range f.Decls {
		if fun, ok := d.(*ast.FuncDecl); ok {
			l[fun.Name.Name] = fun
		}
	}
	return l
}

// No call is handed a recorder that would tell of an opening: so the text is asked. It opens no word, and chooses by places, steps, parts and qualities alone: none of those that choose are handed a word.
func TestNothingIsOpened(t *testing.T) {
	public := []string{"Zig", "leastOf", "stepOf", "scaleOf", "listed"}
	compared := []token.Token{token.EQL, token.NEQ, token.LSS, token.GTR, token.LEQ, token.GEQ, token.LAND, token.LOR}
	for name, fun := range functions(text(t)) {
		ast.Inspect(fun, func(n ast.Node) bool {
			switch x := n.(type) {
			case *ast.IfStmt, *ast.ForStmt, *ast.SwitchStmt, *ast.TypeSwitchStmt, *ast.MapType:
				if !slices.Contains(public, name) {
					t.Errorf("a choice in %s", name)
				}
			case *ast.BinaryExpr:
				if slices.Contains(compared, x.Op) && !slices.Contains(public, name) {
					t.Errorf("a comparison in %s", name)
				}
			case *ast.SelectorExpr:
				if x.Sel.Name == "Open" {
					t.Errorf("an opening in %s", name)
				}
			}
			return true
		})
	}
}

// callers are the functions whose text names another.
func callers(f *ast.File, name string) []string {
	var l []string
	for _, d := range f.Decls {
		if fun, ok := d.(*ast.FuncDecl); ok && fun.Name.Name != name {
			ast.Inspect(fun.Body, func(n ast.Node) bool {
				if id, ok := n.(*ast.Ident); ok && id.Name == name {
					l = append(l, fun.Name.Name)
				}
				return true
			})
		}
	}
	return l
}

// Each way is one function of words of any kind, plain or secret, which can be neither compared nor opened there.
func TestBothWaysAreOne(t *testing.T) {
	f := text(t)
	for name, want := range map[string][]string{"there": {"Forward", "ForwardSec"}, "back": {"Back", "BackSec"}} {
		if got := callers(f, name); !slices.Equal(got, want) {
			t.Errorf("%s is asked by %v", name, got)
		}
		params := functions(f)[name].Type.TypeParams
		if params == nil || len(params.List) != 1 {
			t.Fatalf("%s is not generic", name)
		}
		if kind, ok := params.List[0].Type.(*ast.Ident); !ok || kind.Name != "any" {
			t.Errorf("%s knows its words", name)
		}
	}
}

// tables are the variables of the package.
func tables(f *ast.File) map[string]*ast.ValueSpec {
	l := map[string]*ast.ValueSpec{}
	for _, d := range f.Decls {
		if g, ok := d.(*ast.GenDecl); ok && g.Tok == token.VAR {
			for _, s := range g.Specs {
				v := s.(*ast.ValueSpec)
				l[v.Names[0].Name] = v
			}
		}
	}
	return l
}

// isArray tells whether a type is an array, of arrays or not.
func isArray(e ast.Expr) bool {
	a, ok := e.(*ast.ArrayType)
	return ok && a.Len != nil
}

// written counts the numbers that a literal writes out, within what it has of others.
func written(e ast.Expr) int {
	switch x := e.(type) {
	case *ast.BasicLit:
		return 1
	case *ast.CompositeLit:
		n := 0
		for _, part := range x.Elts {
			n += written(part)
		}
		return n
	}
	return 0
}

// The order and the lists are the package's variables: arrays of numbers that are written out, each read by one function alone.
func TestTablesAreLiterals(t *testing.T) {
	f := text(t)
	found := tables(f)
	want := map[string]int{"order": 64, "lists": 128}
	if len(found) != len(want) {
		t.Errorf("%d variables", len(found))
	}
	for name, n := range want {
		v := found[name]
		if v == nil || len(v.Values) != 1 {
			t.Fatalf("no table %s", name)
		}
		table, ok := v.Values[0].(*ast.CompositeLit)
		if !ok || !isArray(table.Type) || written(table) != n {
			t.Errorf("%s is not an array of %d numbers", name, n)
		}
	}
	if inner := found["lists"].Values[0].(*ast.CompositeLit).Type.(*ast.ArrayType).Elt; !isArray(inner) {
		t.Error("the lists are not arrays")
	}
	if got := callers(f, "order"); !slices.Equal(got, []string{"Zig"}) {
		t.Errorf("the order is read by %v", got)
	}
	if got := callers(f, "lists"); !slices.Equal(slices.Compact(got), []string{"listed"}) {
		t.Errorf("the lists are read by %v", got)
	}
}
