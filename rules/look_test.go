package rules

import (
	"bytes"
	"go/ast"
	"go/build"
	"go/format"
	"go/importer"
	"go/parser"
	"go/token"
	"go/types"
	"os/exec"
	"path"
	"sort"
	"strconv"
	"strings"
)

const module = "foreman"

// pack is a package of the program, without its tests.
type pack struct {
	path  string
	files []*ast.File
	types *types.Package
}

// look goes through packages, and collects what is wrong in them.
type look struct {
	texts  map[string]map[string]string // of each package, by its path, its files
	fset   *token.FileSet
	info   *types.Info
	packs  map[string]*pack
	std    types.Importer
	weight float64 // of all tables at package level: 1 is what one may have
	faults []string
}

// faultsOf tells what is wrong in packages: by their paths their files, by their names the texts; sorted.
func faultsOf(texts map[string]map[string]string) ([]string, error) {
	if build.Default.GOROOT == "" {
		root, _ := exec.Command("go", "env", "GOROOT").Output()
		build.Default.GOROOT = strings.TrimSpace(string(root))
	}
	l := &look{texts: texts, fset: token.NewFileSet(), packs: map[string]*pack{}, info: &types.Info{
		Types: map[ast.Expr]types.TypeAndValue{},
		Uses:  map[*ast.Ident]types.Object{},
		Defs:  map[*ast.Ident]types.Object{},
	}}
	l.std = importer.ForCompiler(l.fset, "source", nil)
	for where := range texts {
		if _, err := l.Import(where); err != nil {
			return nil, err
		}
	}
	for _, p := range l.packs {
		if given(p.path) {
			continue
		}
		for _, f := range p.files {
			l.layout(p, f)
			l.file(p, f)
		}
	}
	if l.weight > 2 {
		l.faults = append(l.faults, "3a: the tables at package level are too great, all in all")
	}
	sort.Strings(l.faults)
	return l.faults, nil
}

// Import makes a look an importer of the program's own packages, and of the library's.
func (l *look) Import(where string) (*types.Package, error) {
	if p := l.packs[where]; p != nil {
		return p.types, nil
	}
	texts, own := l.texts[where]
	if !own {
		return l.std.Import(where)
	}
	p := &pack{path: where}
	l.packs[where] = p
	for name, text := range texts {
		f, err := parser.ParseFile(l.fset, path.Join(where, name), text, parser.ParseComments|parser.SkipObjectResolution)
		if err != nil {
			return nil, err
		}
		p.files = append(p.files, f)
	}
	c := types.Config{Importer: l}
	var err error
	p.types, err = c.Check(where, l.fset, p.files, l.info)
	return p.types, err
}

// wrong notes a fault: which rule, where, what.
func (l *look) wrong(rule string, at ast.Node, what string) {
	l.faults = append(l.faults, rule+": "+l.fset.Position(at.Pos()).String()+": "+what)
}

// given says whether a package was given whole: it stays as it lies.
func given(where string) bool {
	return where == module+"/api" || where == module+"/plain"
}

// layout asks for gofmt's layout, no line for the compiler, and no file that is built on some machines alone.
func (l *look) layout(p *pack, f *ast.File) {
	name := path.Base(l.fset.Position(f.Pos()).Filename)
	text := l.texts[p.path][name]
	if formed, err := format.Source([]byte(text)); err != nil || !bytes.Equal(formed, []byte(text)) {
		l.wrong("9", f, "not in gofmt's layout")
	}
	for _, group := range f.Comments {
		for _, c := range group.List {
			if strings.HasPrefix(c.Text, "//go:") || strings.HasPrefix(c.Text, "// +build") || strings.HasPrefix(c.Text, "//export") || strings.HasPrefix(c.Text, "//line") {
				l.wrong("2", c, "a line for the compiler")
			}
		}
	}
	if strings.Contains(name, "_") {
		l.wrong("2", f, "a file's name with a _ may be a build tag")
	}
}

// file looks at one file.
func (l *look) file(p *pack, f *ast.File) {
	for _, i := range f.Imports {
		l.imported(p, i)
	}
	for _, d := range f.Decls {
		switch x := d.(type) {
		case *ast.FuncDecl:
			l.function(x)
		case *ast.GenDecl:
			if x.Tok == token.VAR {
				for _, s := range x.Specs {
					l.variable(s.(*ast.ValueSpec))
				}
			}
		}
	}
	var above []ast.Node
	ast.Inspect(f, func(n ast.Node) bool {
		if n == nil {
			above = above[:len(above)-1]
			return true
		}
		l.node(n, above)
		above = append(above, n)
		return true
	})
}

// layers are the program's, each behind those that it may call.
var layers = strings.Fields("table sum ops flow plan eval disk store catalog engine desk many")

// library is what of the library may be imported.
var library = strings.Fields("bytes cmp container/heap errors iter maps math math/bits slices sort strconv strings sync sync/atomic unicode unicode/utf8")

// place is where a word stands in a list, -1 if it does not.
func place(l []string, word string) int {
	for i, w := range l {
		if w == word {
			return i
		}
	}
	return -1
}

// imported looks at one import.
func (l *look) imported(p *pack, i *ast.ImportSpec) {
	where, _ := strconv.Unquote(i.Path.Value)
	if i.Name != nil && (i.Name.Name == "." || i.Name.Name == "_") {
		l.wrong("1", i, "an import without a name")
	}
	own, of := strings.CutPrefix(where, module+"/")
	if !of {
		if place(library, where) < 0 {
			l.wrong("1", i, "an import that may not be")
		}
		return
	}
	if own == "plain" {
		l.wrong("1", i, "nothing of the program uses plain")
	}
	from, to := place(layers, strings.TrimPrefix(p.path, module+"/")), place(layers, own)
	if from >= 0 && to >= from {
		l.wrong("1", i, "a layer calls one that is not above it")
	}
}

// node looks at one node, with all that it stands in.
func (l *look) node(n ast.Node, above []ast.Node) {
	switch x := n.(type) {
	case *ast.Ident:
		l.name(x, above)
	case *ast.CallExpr:
		l.call(x, above)
	case *ast.RangeStmt:
		l.ranged(x)
	case *ast.TypeAssertExpr:
		l.assertion(x, above)
	case *ast.FuncLit:
		l.mapsIn(x.Body)
	}
}

// name looks at one name that is used.
func (l *look) name(x *ast.Ident, above []ast.Node) {
	o := l.info.Uses[x]
	if o == nil {
		return
	}
	if o.Pkg() == nil {
		if o.Name() == "print" || o.Name() == "println" {
			l.wrong("2", x, "printing")
		}
		return
	}
	if o.Parent() != o.Pkg().Scope() {
		return
	}
	switch o.Pkg().Path() {
	case "sync":
		if place([]string{"Mutex", "RWMutex", "WaitGroup", "Once"}, o.Name()) < 0 {
			l.wrong("1", x, "of sync only Mutex, RWMutex, WaitGroup, Once")
		}
	case "iter":
		if o.Name() == "Pull" || o.Name() == "Pull2" {
			l.wrong("1", x, "of iter neither Pull nor Pull2")
		}
	}
	if v, ok := o.(*types.Var); ok {
		l.read(x, v, above)
	}
}

// call looks at one call.
func (l *look) call(x *ast.CallExpr, above []ast.Node) {
	if f, ok := ast.Unparen(x.Fun).(*ast.Ident); ok {
		if b, ok := l.info.Uses[f].(*types.Builtin); ok && b.Name() == "recover" && !inDeferred(above) {
			l.wrong("3", x, "recover outside a deferred function literal")
		}
	}
	to := l.info.Types[x.Fun]
	if s, ok := under(to.Type).(*types.Slice); ok && to.IsType() && isBasic(s.Elem(), types.Int32) && l.info.Types[x.Args[0]].Value != nil {
		l.wrong("3", x, "a constant text made a list of runes")
	}
}

// inDeferred says whether the innermost function is a literal that is deferred.
func inDeferred(above []ast.Node) bool {
	for i := len(above) - 1; i >= 2; i-- {
		switch x := above[i].(type) {
		case *ast.FuncLit:
			c, ok := above[i-1].(*ast.CallExpr)
			d, deferred := above[i-2].(*ast.DeferStmt)
			return ok && deferred && c.Fun == x && d.Call == c
		case *ast.FuncDecl:
			return false
		}
	}
	return false
}

// assertion looks at v, ok := x.(I): v is good only where ok holds.
func (l *look) assertion(x *ast.TypeAssertExpr, above []ast.Node) {
	if x.Type == nil {
		return
	}
	i, ok := under(l.info.Types[x.Type].Type).(*types.Interface)
	if !ok || i.NumMethods() == 0 {
		return
	}
	a, ok := above[len(above)-1].(*ast.AssignStmt)
	if !ok || len(a.Lhs) != 2 {
		return
	}
	s, ok := above[len(above)-2].(*ast.IfStmt)
	if !ok || s.Init != ast.Stmt(a) || s.Else != nil || types.ExprString(s.Cond) != types.ExprString(a.Lhs[1]) {
		l.wrong("3c", x, "what an assertion answers, where its ok may not hold")
	}
}

// ranged looks for a key that is stored into the map that is ranged over.
func (l *look) ranged(x *ast.RangeStmt) {
	if _, ok := under(l.info.Types[x.X].Type).(*types.Map); !ok {
		return
	}
	over := types.ExprString(x.X)
	ast.Inspect(x.Body, func(n ast.Node) bool {
		a, ok := n.(*ast.AssignStmt)
		if !ok {
			return true
		}
		for _, to := range a.Lhs {
			i, ok := to.(*ast.IndexExpr)
			if ok && types.ExprString(i.X) == over && (x.Key == nil || types.ExprString(i.Index) != types.ExprString(x.Key)) {
				l.wrong("3", a, "a key stored into the map that is ranged over")
			}
		}
		return true
	})
}

// under is what a type is made of, nil if there is none.
func under(t types.Type) types.Type {
	if t == nil {
		return nil
	}
	return t.Underlying()
}

// isBasic says whether a type is made of this kind.
func isBasic(t types.Type, kinds ...types.BasicKind) bool {
	b, ok := under(t).(*types.Basic)
	for _, k := range kinds {
		if ok && b.Kind() == k {
			return true
		}
	}
	return false
}
