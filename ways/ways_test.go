// Package ways holds no code of the program: its tests check the source of all layers against the rules of the language and the features that the document names.
package ways

import (
	"go/ast"
	"go/importer"
	"go/parser"
	"go/token"
	"go/types"
	"path/filepath"
	"slices"
	"strings"
	"testing"
)

// loaded is the source of one package with its types.
type loaded struct {
	files []*ast.File
	info  *types.Info
	types *types.Package
}

// loader reads the project's packages from the folders beside this one, and those of the library from their source.
type loader struct {
	set      *token.FileSet
	library  types.Importer
	packages map[string]*loaded
}

func newLoader() *loader {
	set := token.NewFileSet()
	return &loader{set: set, library: importer.ForCompiler(set, "source", nil), packages: map[string]*loaded{}}
}

// Import makes a loader an importer of the type checker.
func (l *loader) Import(path string) (*types.Package, error) {
	name, own := strings.CutPrefix(path, "fedchat/")
	if !own {
		return l.library.Import(path)
	}
	p, err := l.load(name)
	if err != nil {
		return nil, err
	}
	return p.types, nil
}

func (l *loader) load(name string) (*loaded, error) {
	if p, ok := l.packages[name]; ok {
		return p, nil
	}
	paths, err := filepath.Glob(filepath.Join("..", name, "*.go"))
	if err != nil {
		return nil, err
	}
	p := &loaded{info: &types.Info{Types: map[ast.Expr]types.TypeAndValue{}, Selections: map[*ast.SelectorExpr]*types.Selection{}, Uses: map[*ast.Ident]types.Object{}, Defs: map[*ast.Ident]types.Object{}}}
	for _, path := range paths {
		if strings.HasSuffix(path, "_test.go") {
			continue
		}
		file, err := parser.ParseFile(l.set, path, nil, parser.ParseComments)
		if err != nil {
			return nil, err
		}
		p.files = append(p.files, file)
	}
	config := types.Config{Importer: l}
	p.types, err = config.Check("fedchat/"+name, l.set, p.files, p.info)
	l.packages[name] = p
	return p, err
}

// visit calls f for every node of the package, with the nodes above it.
func (p *loaded) visit(f func(n ast.Node, above []ast.Node)) {
	for _, file := range p.files {
		above := []ast.Node{}
		ast.Inspect(file, func(n ast.Node) bool {
			if n == nil {
				above = above[:len(above)-1]
				return true
			}
			f(n, above)
			above = append(above, n)
			return true
		})
	}
}

func (p *loaded) under(e ast.Expr) types.Type {
	if t := p.info.TypeOf(e); t != nil {
		return t.Underlying()
	}
	return types.Typ[types.Invalid]
}

// features returns the names of the features that a package uses.
func (p *loaded) features() map[string]bool {
	found := map[string]bool{}
	p.visit(func(n ast.Node, above []ast.Node) {
		for _, name := range p.featuresOf(n, above) {
			found[name] = true
		}
	})
	if found["interface-type"] && found["interface-call"] {
		found["interface"] = true
	}
	return found
}

func (p *loaded) featuresOf(n ast.Node, above []ast.Node) []string {
	switch n := n.(type) {
	case *ast.RangeStmt:
		return p.rangeFeatures(n)
	case *ast.CallExpr:
		return p.callFeatures(n)
	case *ast.SelectorExpr:
		return p.selectorFeatures(n, above)
	case *ast.BinaryExpr:
		return p.compareFeatures(n)
	case *ast.GenDecl:
		return tableFeatures(n, above)
	case *ast.MapType:
		return []string{"map"}
	case *ast.AssignStmt:
		return p.recursionFeatures(n)
	case *ast.FuncLit:
		return []string{"closure"}
	case *ast.SliceExpr:
		if n.Slice3 {
			return []string{"three-index"}
		}
	case *ast.ArrayType:
		if n.Len != nil {
			return []string{"array"}
		}
	case *ast.FuncDecl:
		return declFeatures(n)
	case *ast.StructType:
		return p.structFeatures(n)
	case *ast.InterfaceType:
		if n.Methods.NumFields() > 0 {
			return []string{"interface-type"}
		}
	case *ast.BranchStmt:
		if n.Tok == token.FALLTHROUGH {
			return []string{"fallthrough"}
		}
		if n.Label != nil && (n.Tok == token.BREAK || n.Tok == token.CONTINUE) {
			return []string{"label"}
		}
	case *ast.DeferStmt:
		return []string{"defer"}
	case *ast.TypeSwitchStmt:
		return []string{"type-switch"}
	case *ast.Ident:
		return identFeatures(n)
	}
	return nil
}

func identFeatures(n *ast.Ident) []string {
	if n.Name == "iota" || n.Name == "rune" {
		return []string{n.Name}
	}
	return nil
}

func (p *loaded) rangeFeatures(n *ast.RangeStmt) []string {
	switch t := p.under(n.X).(type) {
	case *types.Basic:
		if t.Info()&types.IsInteger != 0 {
			return []string{"range-integer"}
		}
		if t.Info()&types.IsString != 0 {
			return []string{"range-string"}
		}
	case *types.Signature:
		return []string{"range-function"}
	case *types.Map:
		return []string{"range-map"}
	}
	return nil
}

func (p *loaded) callFeatures(n *ast.CallExpr) []string {
	switch f := n.Fun.(type) {
	case *ast.Ident:
		if _, ok := p.info.Uses[f].(*types.Builtin); ok && slices.Contains([]string{"copy", "clear", "delete", "panic", "recover"}, f.Name) {
			return []string{f.Name}
		}
	case *ast.SelectorExpr:
		if s := p.info.Selections[f]; s != nil && types.IsInterface(s.Recv()) {
			return []string{"interface-call"}
		}
	}
	return nil
}

func (p *loaded) selectorFeatures(n *ast.SelectorExpr, above []ast.Node) []string {
	s := p.info.Selections[n]
	if s == nil {
		return nil
	}
	found := []string{}
	if s.Kind() == types.MethodExpr {
		found = append(found, "method-expression")
	}
	if s.Kind() == types.MethodVal {
		if call, ok := above[len(above)-1].(*ast.CallExpr); !ok || call.Fun != ast.Expr(n) {
			found = append(found, "method-value")
		}
		if len(s.Index()) > 1 {
			found = append(found, "promoted")
		}
	}
	return found
}

func (p *loaded) compareFeatures(n *ast.BinaryExpr) []string {
	if n.Op != token.EQL && n.Op != token.NEQ {
		return nil
	}
	switch p.under(n.X).(type) {
	case *types.Array:
		return []string{"array-compared"}
	case *types.Struct:
		return []string{"struct-compared"}
	}
	return nil
}

func tableFeatures(n *ast.GenDecl, above []ast.Node) []string {
	if _, top := above[len(above)-1].(*ast.File); !top || n.Tok != token.VAR {
		return nil
	}
	for _, spec := range n.Specs {
		for _, value := range spec.(*ast.ValueSpec).Values {
			if literal, ok := value.(*ast.CompositeLit); ok {
				if _, ok := literal.Type.(*ast.ArrayType); ok {
					return []string{"constant-table"}
				}
			}
		}
	}
	return nil
}

// recursionFeatures finds function literals that call the variable to which they are assigned.
func (p *loaded) recursionFeatures(n *ast.AssignStmt) []string {
	if len(n.Lhs) != 1 || len(n.Rhs) != 1 {
		return nil
	}
	name, ok := n.Lhs[0].(*ast.Ident)
	literal, isLiteral := n.Rhs[0].(*ast.FuncLit)
	if !ok || !isLiteral {
		return nil
	}
	recursive := false
	ast.Inspect(literal.Body, func(m ast.Node) bool {
		if call, ok := m.(*ast.CallExpr); ok {
			if f, ok := call.Fun.(*ast.Ident); ok && p.info.Uses[f] != nil && p.info.Uses[f] == p.info.ObjectOf(name) {
				recursive = true
			}
		}
		return true
	})
	if recursive {
		return []string{"recursive-closure"}
	}
	return nil
}

func declFeatures(n *ast.FuncDecl) []string {
	found := []string{}
	if n.Type.TypeParams != nil {
		found = append(found, "generic-function")
	}
	for _, field := range n.Type.Params.List {
		if _, ok := field.Type.(*ast.Ellipsis); ok {
			found = append(found, "variadic")
		}
	}
	return found
}

func (p *loaded) structFeatures(n *ast.StructType) []string {
	found := []string{}
	for _, field := range n.Fields.List {
		if len(field.Names) == 0 {
			found = append(found, "embedding")
		}
		if _, ok := p.under(field.Type).(*types.Signature); ok {
			found = append(found, "function-field")
		}
	}
	return found
}

func TestEveryLayerUsesItsFeatures(t *testing.T) {
	l := newLoader()
	for _, layer := range layers[:built] {
		p, err := l.load(layer.name)
		if err != nil {
			t.Fatal(err)
		}
		found := p.features()
		for _, feature := range strings.Fields(layer.features) {
			if !found[feature] {
				t.Errorf("package %s does not use %s", layer.name, feature)
			}
		}
	}
}

// ownPackages are those of the project that are no layers.
var ownPackages = strings.Fields("clone history index lens ordered reader sample sending sight unread")

func TestLayersCallOnlyWhatTheyMay(t *testing.T) {
	l := newLoader()
	may := map[string]map[string]bool{}
	for i, layer := range layers {
		allowed := map[string]bool{"api": true}
		for _, name := range ownPackages {
			allowed[name] = true
		}
		for _, name := range strings.Fields(layer.calls) {
			allowed[name] = true
			for below := range may[name] {
				allowed[below] = true
			}
		}
		may[layer.name] = allowed
		if i >= built {
			continue
		}
		p, err := l.load(layer.name)
		if err != nil {
			t.Fatal(err)
		}
		for _, imported := range p.types.Imports() {
			if name, own := strings.CutPrefix(imported.Path(), "fedchat/"); own && !allowed[name] {
				t.Errorf("package %s imports %s", layer.name, name)
			}
		}
	}
}
