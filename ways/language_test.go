package ways

import (
	"go/ast"
	"go/token"
	"go/types"
	"slices"
	"strings"
	"testing"
)

// library are the packages that the language allows.
var library = []string{"bytes", "cmp", "container/heap", "errors", "iter", "maps", "math", "math/bits", "slices", "sort", "strconv", "strings", "sync", "sync/atomic", "unicode", "unicode/utf8"}

// eachPackage runs a check for every package that has landed, and for those that are no layers.
func eachPackage(t *testing.T, check func(l *loader, name string, p *loaded)) {
	l := newLoader()
	names := slices.Clone(ownPackages)
	for _, layer := range layers[:built] {
		names = append(names, layer.name)
	}
	for _, name := range names {
		p, err := l.load(name)
		if err != nil {
			t.Fatal(err)
		}
		check(l, name, p)
	}
}

func TestImports(t *testing.T) {
	eachPackage(t, func(_ *loader, name string, p *loaded) {
		for _, file := range p.files {
			for _, spec := range file.Imports {
				path := strings.Trim(spec.Path.Value, `"`)
				if !strings.HasPrefix(path, "fedchat/") && !slices.Contains(library, path) {
					t.Errorf("package %s imports %s", name, path)
				}
			}
		}
	})
}

func TestFunctionsAreShort(t *testing.T) {
	eachPackage(t, func(l *loader, name string, p *loaded) {
		p.visit(func(n ast.Node, _ []ast.Node) {
			if f, ok := n.(*ast.FuncDecl); ok {
				if lines := l.set.Position(f.End()).Line - l.set.Position(f.Pos()).Line + 1; lines > 60 {
					t.Errorf("package %s: %s has %d lines", name, f.Name.Name, lines)
				}
			}
		})
	})
}

func TestNoDirectives(t *testing.T) {
	eachPackage(t, func(_ *loader, name string, p *loaded) {
		for _, file := range p.files {
			for _, group := range file.Comments {
				for _, comment := range group.List {
					if strings.HasPrefix(comment.Text, "//go:") || strings.HasPrefix(comment.Text, "// +build") {
						t.Errorf("package %s: %s", name, comment.Text)
					}
				}
			}
		}
	})
}

// plain reports whether a value of the package level is written out.
func plain(p *loaded, e ast.Expr) bool {
	if p.info.Types[e].Value != nil {
		return true
	}
	switch e := e.(type) {
	case *ast.CompositeLit:
		if _, isMap := p.under(e).(*types.Map); isMap {
			return false
		}
		for _, element := range e.Elts {
			if pair, ok := element.(*ast.KeyValueExpr); ok {
				element = pair.Value
			}
			if !plain(p, element) {
				return false
			}
		}
		return true
	case *ast.CallExpr:
		s, ok := e.Fun.(*ast.SelectorExpr)
		return ok && s.Sel.Name == "New" && types.ExprString(s.X) == "errors"
	}
	return false
}

func TestPackageLevelIsPlain(t *testing.T) {
	eachPackage(t, func(_ *loader, name string, p *loaded) {
		p.visit(func(n ast.Node, above []ast.Node) {
			spec, ok := n.(*ast.ValueSpec)
			if !ok || len(above) < 2 || above[len(above)-1].(*ast.GenDecl).Tok != token.VAR {
				return
			}
			if _, top := above[len(above)-2].(*ast.File); !top {
				return
			}
			if len(spec.Values) != len(spec.Names) {
				t.Errorf("package %s: %s has no value", name, spec.Names[0].Name)
			}
			for _, value := range spec.Values {
				if !plain(p, value) {
					t.Errorf("package %s: the value of %s is not written out", name, spec.Names[0].Name)
				}
				if basic, ok := p.under(value).(*types.Basic); ok && basic.Info()&(types.IsString|types.IsFloat) != 0 {
					t.Errorf("package %s: %s is a string or a float", name, spec.Names[0].Name)
				}
			}
		})
	})
}

// table returns the variable of the package level that an expression reads or writes.
func table(p *loaded, e ast.Expr) *types.Var {
	switch e := e.(type) {
	case *ast.ParenExpr:
		return table(p, e.X)
	case *ast.IndexExpr:
		return table(p, e.X)
	case *ast.SelectorExpr:
		return table(p, e.X)
	case *ast.Ident:
		if v, ok := p.info.Uses[e].(*types.Var); ok && v.Parent() == p.types.Scope() {
			return v
		}
	}
	return nil
}

func TestTablesAreOnlyRead(t *testing.T) {
	eachPackage(t, func(_ *loader, name string, p *loaded) {
		p.visit(func(n ast.Node, _ []ast.Node) {
			written := []ast.Expr{}
			switch n := n.(type) {
			case *ast.AssignStmt:
				written = n.Lhs
			case *ast.IncDecStmt:
				written = append(written, n.X)
			case *ast.UnaryExpr:
				if n.Op == token.AND {
					written = append(written, n.X)
				}
			case *ast.SliceExpr:
				written = append(written, n.X)
			case *ast.CallExpr:
				written = n.Args
			case *ast.ReturnStmt:
				written = n.Results
			}
			for _, e := range written {
				v := table(p, e)
				if v == nil {
					continue
				}
				_, basic := p.under(e).(*types.Basic)
				_, read := n.(*ast.CallExpr)
				_, returned := n.(*ast.ReturnStmt)
				if call, ok := n.(*ast.CallExpr); ok {
					if f, ok := call.Fun.(*ast.Ident); ok && f.Name == "len" {
						continue
					}
				}
				if (read || returned) && (basic || isArrayOrStruct(p.under(e))) {
					continue
				}
				t.Errorf("package %s: %s is not just read", name, v.Name())
			}
		})
	})
}

// isArrayOrStruct reports whether values of a type are copied when they are passed on.
func isArrayOrStruct(t types.Type) bool {
	switch t.(type) {
	case *types.Array, *types.Struct:
		return true
	}
	return false
}

func withMethods(t types.Type) bool {
	i, ok := t.Underlying().(*types.Interface)
	return ok && i.NumMethods() > 0
}

func TestNoInterfacesAreCompared(t *testing.T) {
	eachPackage(t, func(_ *loader, name string, p *loaded) {
		p.visit(func(n ast.Node, _ []ast.Node) {
			if b, ok := n.(*ast.BinaryExpr); ok && (b.Op == token.EQL || b.Op == token.NEQ) {
				x, y := p.info.TypeOf(b.X), p.info.TypeOf(b.Y)
				if withMethods(x) && withMethods(y) {
					t.Errorf("package %s compares %s", name, types.ExprString(b))
				}
			}
		})
	})
}

func TestNoRunesOfConstants(t *testing.T) {
	eachPackage(t, func(_ *loader, name string, p *loaded) {
		p.visit(func(n ast.Node, _ []ast.Node) {
			call, ok := n.(*ast.CallExpr)
			if !ok || len(call.Args) != 1 || !p.info.Types[call.Fun].IsType() {
				return
			}
			slice, ok := p.under(call.Fun).(*types.Slice)
			if ok && types.Identical(slice.Elem(), types.Typ[types.Rune]) && p.info.Types[call.Args[0]].Value != nil {
				t.Errorf("package %s converts a constant to runes", name)
			}
		})
	})
}
