package rules

import (
	"go/ast"
	"go/constant"
	"go/token"
	"go/types"
)

// mostLines is how long a function may be.
const mostLines = 60

// function looks at one function.
func (l *look) function(x *ast.FuncDecl) {
	if x.Recv == nil && x.Name.Name == "init" {
		l.wrong("3", x, "func init")
	}
	if x.Body == nil {
		l.wrong("2", x, "a function without a body")
		return
	}
	if l.fset.Position(x.End()).Line-l.fset.Position(x.Pos()).Line >= mostLines {
		l.wrong("9", x, "a function of too many lines")
	}
	l.mapsIn(x.Body)
}

// mapsIn looks for maps of bools or texts that are both made and asked in one function.
func (l *look) mapsIn(body *ast.BlockStmt) {
	var made ast.Node
	asked := false
	stored := map[ast.Expr]bool{}
	ast.Inspect(body, func(n ast.Node) bool {
		switch x := n.(type) {
		case *ast.FuncLit:
			return false
		case *ast.AssignStmt:
			for _, to := range x.Lhs {
				stored[to] = true
			}
		case *ast.CallExpr:
			if f, ok := x.Fun.(*ast.Ident); ok && f.Name == "make" && l.ofWords(x) {
				made = x
			}
		case *ast.CompositeLit:
			if l.ofWords(x) {
				made = x
			}
		case *ast.IndexExpr:
			asked = asked || l.ofWords(x.X) && !stored[x]
		}
		return true
	})
	if made != nil && asked {
		l.wrong("3", made, "a map of bools or texts, made and asked in one function")
	}
}

// ofWords says whether something is a map whose values are bools or texts.
func (l *look) ofWords(x ast.Expr) bool {
	m, ok := under(l.info.Types[x].Type).(*types.Map)
	return ok && isBasic(m.Elem(), types.Bool, types.String)
}

// variable looks at variables of package level.
func (l *look) variable(s *ast.ValueSpec) {
	if len(s.Values) != len(s.Names) {
		l.wrong("3b", s, "a variable without a value of its own")
		return
	}
	for i, v := range s.Values {
		if l.newError(v) {
			continue
		}
		t := l.info.Defs[s.Names[i]]
		if t == nil {
			l.wrong("3b", s, "a variable without a name")
			continue
		}
		if isBasic(t.Type(), types.String) {
			l.wrong("3b", s, "a text at package level is a constant")
		}
		if !mayBe(t.Type()) {
			l.wrong("3b", s, "what may not stand at package level")
		}
		l.writtenOut(v)
		w := l.weigh(v)
		l.weight += w
		if w > 1 {
			l.wrong("3a", s, "a table that is too great")
		}
	}
}

// newError says whether a value is errors.New of one text.
func (l *look) newError(v ast.Expr) bool {
	c, ok := v.(*ast.CallExpr)
	return ok && types.ExprString(c.Fun) == "errors.New" && len(c.Args) == 1 && l.info.Types[c.Args[0]].Value != nil
}

// mayBe says whether something of a type may stand at package level: numbers, texts, bools, and structs, arrays, slices of these.
func mayBe(t types.Type) bool {
	switch x := under(t).(type) {
	case *types.Basic:
		return x.Info()&(types.IsInteger|types.IsString|types.IsBoolean) != 0
	case *types.Array:
		return mayBe(x.Elem())
	case *types.Slice:
		return mayBe(x.Elem())
	case *types.Struct:
		for i := range x.NumFields() {
			if !mayBe(x.Field(i).Type()) {
				return false
			}
		}
		return true
	}
	return false
}

// writtenOut asks that a starting value calls nothing, and names no variable.
func (l *look) writtenOut(v ast.Expr) {
	ast.Inspect(v, func(n ast.Node) bool {
		switch x := n.(type) {
		case *ast.CallExpr:
			if !l.info.Types[x.Fun].IsType() && l.info.Types[x].Value == nil {
				l.wrong("3b", x, "a value made by a call")
			}
		case *ast.UnaryExpr:
			if x.Op == token.AND {
				l.wrong("3b", x, "a pointer")
			}
		case *ast.FuncLit:
			l.wrong("3b", x, "a function")
		case *ast.Ident:
			if o, ok := l.info.Uses[x].(*types.Var); ok && !o.IsField() {
				l.wrong("3a", x, "a starting value that names a variable")
			}
		}
		return true
	})
}

// weigh is how great a table is: 1 is what it may have.
func (l *look) weigh(v ast.Expr) float64 {
	t := l.info.Types[v]
	c, ok := v.(*ast.CompositeLit)
	if !ok {
		return leaf(t)
	}
	if _, ok := under(t.Type).(*types.Struct); ok {
		return 1.0 / 50
	}
	w := 0.0
	for _, e := range c.Elts {
		if kv, ok := e.(*ast.KeyValueExpr); ok {
			e = kv.Value
		}
		w += l.weigh(e)
	}
	if a, ok := under(t.Type).(*types.Array); ok { // what is not written out is there, too
		w += float64(a.Len()-int64(len(c.Elts))) * leaf(types.TypeAndValue{Type: a.Elem()})
	}
	return w
}

// leaf is how great one number, text, or bool is.
func leaf(t types.TypeAndValue) float64 {
	if t.Value != nil && t.Value.Kind() == constant.String {
		return float64(max(5, len(constant.StringVal(t.Value)))) / 5 / 140
	}
	switch {
	case isBasic(t.Type, types.Int32, types.Uint32):
		return 1.0 / 200
	case isBasic(t.Type, types.Int, types.Uint, types.Int64, types.Uint64, types.Uintptr):
		return 1.0 / 150
	}
	return 1.0 / 250
}

// read asks that a variable of package level is only read, on the spot: an element, or how many there are.
func (l *look) read(x *ast.Ident, v *types.Var, above []ast.Node) {
	if _, own := l.packs[v.Pkg().Path()]; !own {
		return
	}
	e, i := ast.Expr(x), len(above)-1
	for ; i >= 0; i-- {
		up, ok := above[i].(ast.Expr)
		if !ok || !reaches(up, e) {
			break
		}
		e = up
	}
	if changes(above[i], e) {
		l.wrong("3a", x, "a variable of package level that is changed, or whose address is taken")
	}
	switch under(l.info.Types[e].Type).(type) {
	case *types.Array, *types.Slice:
		if !l.onTheSpot(above[i], e) {
			l.wrong("3a", x, "a table of package level that is not read on the spot")
		}
	}
}

// reaches says whether an expression is a part of the thing e: an element, a field; or e in brackets, or by its package's name.
func reaches(up, e ast.Expr) bool {
	switch x := up.(type) {
	case *ast.IndexExpr:
		return x.X == e
	case *ast.SelectorExpr:
		return x.X == e || x.Sel == e
	case *ast.ParenExpr:
		return true
	}
	return false
}

// changes says whether a node changes e, or takes its address.
func changes(n ast.Node, e ast.Expr) bool {
	switch x := n.(type) {
	case *ast.AssignStmt:
		for _, to := range x.Lhs {
			if to == e {
				return true
			}
		}
	case *ast.IncDecStmt:
		return true
	case *ast.RangeStmt:
		return x.Key == e || x.Value == e
	case *ast.UnaryExpr:
		return x.Op == token.AND
	}
	return false
}

// onTheSpot says whether a node ranges over the table e, or counts it.
func (l *look) onTheSpot(n ast.Node, e ast.Expr) bool {
	switch x := n.(type) {
	case *ast.RangeStmt:
		return x.X == e
	case *ast.CallExpr:
		f, ok := x.Fun.(*ast.Ident)
		return ok && f.Name == "len"
	}
	return false
}
