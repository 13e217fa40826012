package tests

import (
	"go/ast"
	"go/token"
	"go/types"
)

// mark is a variable, a field of whatever has it, or what lies in lists and maps or behind pointers, by its type.
type mark struct {
	object types.Object
	behind string
}

type marks map[mark]bool

func (m marks) add(more marks) {
	for k := range more {
		m[k] = true
	}
}

func (m marks) meet(other marks) bool {
	for k := range m {
		if other[k] {
			return true
		}
	}
	return false
}

// addFields adds those that a value of this type has.
func (m marks) addFields(t types.Type) {
	if t == nil {
		return
	}
	switch x := t.Underlying().(type) {
	case *types.Struct:
		for f := range x.Fields() {
			m[mark{object: f.Origin()}] = true
			m.addFields(f.Type())
		}
	case *types.Array:
		m[mark{behind: x.Elem().String()}] = true
		m.addFields(x.Elem())
	}
}

// function is one, a function literal, or the body of a range over a function; it changes what it assigns to, and what those change that it calls.
type function struct {
	node    ast.Node
	changes marks
}

// orders looks for statements in which a call changes what is read beside it: the language fixes the order of calls, but not whether such a read comes ahead of them or behind them. It goes by names and types, so that it may find too many; what functions of the library do with their arguments it does not see.
type orders struct {
	info    *types.Info
	all     []*function
	named   map[types.Object]*function
	methods map[string][]*function
	written map[ast.Expr]*function
	// values are those that any function value may be, params the variables that functions get, pointed the variables and fields that pointers may point into.
	values  []*function
	params  map[types.Object]bool
	pointed map[types.Object]bool
}

func newOrders(files []*ast.File, info *types.Info) *orders {
	o := &orders{info: info, named: map[types.Object]*function{}, methods: map[string][]*function{}, written: map[ast.Expr]*function{}, params: map[types.Object]bool{}, pointed: map[types.Object]bool{}}
	for _, f := range files {
		ast.Inspect(f, o.note)
	}
	for _, f := range files {
		o.noteValues(f)
	}
	for again := true; again; {
		again = false
		for _, f := range o.all {
			before := len(f.changes)
			f.changes.add(o.changesOf(f))
			again = again || len(f.changes) > before
		}
	}
	return o
}

func (o *orders) note(n ast.Node) bool {
	f := &function{node: n, changes: marks{}}
	switch x := n.(type) {
	case *ast.FuncDecl:
		o.all = append(o.all, f)
		o.named[o.info.Defs[x.Name]] = f
		if x.Recv != nil {
			o.methods[x.Name.Name] = append(o.methods[x.Name.Name], f)
		}
	case *ast.FuncLit:
		o.all = append(o.all, f)
		o.written[x] = f
		o.values = append(o.values, f)
	case *ast.RangeStmt:
		if _, ok := o.info.TypeOf(x.X).Underlying().(*types.Signature); ok {
			o.all = append(o.all, f)
			o.values = append(o.values, f)
		}
	case *ast.FuncType:
		for _, l := range x.Params.List {
			for _, name := range l.Names {
				o.params[o.info.Defs[name]] = true
			}
		}
	case *ast.UnaryExpr:
		if x.Op == token.AND {
			o.pointAt(x.X)
		}
	case *ast.SelectorExpr:
		if o.ofPointer(x) {
			o.pointAt(x.X)
		}
	case *ast.SliceExpr:
		if _, ok := o.info.TypeOf(x.X).Underlying().(*types.Array); ok {
			o.pointAt(x.X)
		}
	}
	return true
}

func (o *orders) pointAt(e ast.Expr) {
	o.pointed[o.rootOf(e)] = true
	o.pointed[o.objectOf(nameOf(e))] = true
}

// ofPointer tells whether x is a method that gets a pointer to what it is called of.
func (o *orders) ofPointer(x *ast.SelectorExpr) bool {
	f, ok := o.objectOf(x.Sel).(*types.Func)
	if !ok || f.Signature().Recv() == nil {
		return false
	}
	_, ok = f.Signature().Recv().Type().(*types.Pointer)
	return ok
}

// noteValues notes the functions and methods that are named without being called there.
func (o *orders) noteValues(file *ast.File) {
	called := map[*ast.Ident]bool{}
	ast.Inspect(file, func(n ast.Node) bool {
		switch x := n.(type) {
		case *ast.CallExpr:
			called[nameOf(x.Fun)] = true
		case *ast.Ident:
			if f := o.named[o.info.Uses[x]]; f != nil && !called[x] {
				o.values = append(o.values, f)
			}
		}
		return true
	})
}

// nameOf is the name that e is or ends with, nil where it has none.
func nameOf(e ast.Expr) *ast.Ident {
	switch x := ast.Unparen(e).(type) {
	case *ast.Ident:
		return x
	case *ast.SelectorExpr:
		return x.Sel
	case *ast.IndexExpr:
		return nameOf(x.X)
	}
	return nil
}

// objectOf is the variable, field or function of that name; of what is generic it is always the same one.
func (o *orders) objectOf(name *ast.Ident) types.Object {
	if name == nil {
		return nil
	}
	switch x := o.info.ObjectOf(name).(type) {
	case *types.Var:
		return x.Origin()
	case *types.Func:
		return x.Origin()
	}
	return nil
}

// rootOf is the variable in which e lies, with no pointer, list or map between; nil where there is none.
func (o *orders) rootOf(e ast.Expr) types.Object {
	var of ast.Expr
	switch x := ast.Unparen(e).(type) {
	case *ast.Ident:
		return o.objectOf(x)
	case *ast.SelectorExpr:
		of = x.X
	case *ast.IndexExpr:
		of = x.X
	default:
		return nil
	}
	switch t := o.info.TypeOf(of); t.Underlying().(type) {
	case *types.Struct, *types.Array:
		return o.rootOf(of)
	}
	return nil
}

// marksOf is what changes when e is assigned to, and what must change for e to be worth something else.
func (o *orders) marksOf(e ast.Expr) marks {
	m := marks{}
	root := o.rootOf(e)
	if root != nil {
		m[mark{object: root}] = true
	}
	// Nothing but its own name leads to a variable that no pointer points into.
	if root != nil && !o.pointed[root] {
		return m
	}
	t := o.info.TypeOf(e)
	name := o.objectOf(nameOf(e))
	_, index := ast.Unparen(e).(*ast.IndexExpr)
	if name != nil && !index {
		m[mark{object: name}] = true
	}
	if t != nil && (name == nil || index || o.pointed[name]) {
		m[mark{behind: t.String()}] = true
	}
	m.addFields(t)
	return m
}

// changesOf leaves out what f does with its own variables: each call has new ones.
func (o *orders) changesOf(f *function) marks {
	m := marks{}
	own := func(v types.Object) bool {
		return v != nil && f.node.Pos() <= v.Pos() && v.Pos() < f.node.End()
	}
	assigned := func(e ast.Expr) {
		if !own(o.rootOf(e)) {
			m.add(o.marksOf(e))
		}
	}
	ast.Inspect(f.node, func(n ast.Node) bool {
		switch x := n.(type) {
		case *ast.AssignStmt:
			for _, e := range x.Lhs {
				assigned(e)
			}
		case *ast.IncDecStmt:
			assigned(x.X)
		case *ast.CallExpr:
			m.add(o.changesBy(x, false))
		}
		return true
	})
	for k := range m {
		if own(k.object) {
			delete(m, k)
		}
	}
	return m
}

// changesBy is what a call changes. A function that another one gets, and calls, counts where it is handed in; looked at from within it may be any one.
func (o *orders) changesBy(c *ast.CallExpr, within bool) marks {
	callee := o.objectOf(nameOf(c.Fun))
	called := []*function{o.named[callee], o.written[c.Fun]}
	for _, a := range c.Args {
		called = append(called, o.written[a], o.named[o.objectOf(nameOf(a))])
	}
	m := marks{}
	switch x := callee.(type) {
	case *types.Func:
		r := x.Signature().Recv()
		if r != nil && types.IsInterface(r.Type()) {
			called = append(called, o.methods[x.Name()]...)
		} else if r != nil && o.named[x] == nil {
			// A method of the library may change what it is called of.
			m.add(o.marksOf(c.Fun.(*ast.SelectorExpr).X))
		}
	case *types.Var:
		if within || !o.params[x] {
			called = append(called, o.values...)
		}
	}
	for _, f := range called {
		if f != nil {
			m.add(f.changes)
		}
	}
	return m
}

// openIn has the reads of the file that may as well come ahead of a call that changes what is read as behind it.
func (o *orders) openIn(file *ast.File) []ast.Expr {
	var l []ast.Expr
	ast.Inspect(file, func(n ast.Node) bool {
		if s, ok := n.(ast.Stmt); ok {
			l = append(l, o.openOf(s)...)
		}
		return true
	})
	return l
}

// openOf is for what the statement does itself, without the statements in it.
func (o *orders) openOf(s ast.Stmt) []ast.Expr {
	reads := o.readsOf(s)
	var open []ast.Expr
	eachWithin(s, func(n ast.Node) {
		c, ok := n.(*ast.CallExpr)
		if !ok {
			return
		}
		changes := o.changesBy(c, true)
		for e, m := range reads {
			if m.meet(changes) && !o.ordered(s, c, e) {
				open = append(open, e)
			}
		}
	})
	return open
}

// eachWithin goes through s without the statements and function literals in it.
func eachWithin(s ast.Stmt, do func(ast.Node)) {
	ast.Inspect(s, func(n ast.Node) bool {
		switch n.(type) {
		case nil, *ast.FuncLit:
			return false
		case ast.Stmt:
			return n == s
		}
		do(n)
		return true
	})
}

func (o *orders) readsOf(s ast.Stmt) map[ast.Expr]marks {
	reads := map[ast.Expr]marks{}
	eachWithin(s, func(n ast.Node) {
		switch x := n.(type) {
		case *ast.Ident:
			if _, ok := o.objectOf(x).(*types.Var); ok {
				reads[x] = o.marksOf(x)
			}
		case *ast.SelectorExpr:
			if _, ok := o.objectOf(x.Sel).(*types.Var); ok {
				reads[x] = o.marksOf(x)
			}
		case *ast.IndexExpr:
			reads[x] = o.marksOf(x)
		case *ast.StarExpr:
			reads[x] = o.marksOf(x)
		}
	})
	o.dropNamed(s, reads)
	return reads
}

// dropNamed takes away what is named without being read: what is assigned to or pointed to, names of fields, and what a field is taken from.
func (o *orders) dropNamed(s ast.Stmt, reads map[ast.Expr]marks) {
	if x, ok := s.(*ast.AssignStmt); ok && (x.Tok == token.ASSIGN || x.Tok == token.DEFINE) {
		for _, e := range x.Lhs {
			delete(reads, e)
		}
	}
	eachWithin(s, func(n ast.Node) {
		switch x := n.(type) {
		case *ast.KeyValueExpr:
			if v, ok := o.objectOf(nameOf(x.Key)).(*types.Var); ok && v.IsField() {
				delete(reads, x.Key)
			}
		case *ast.UnaryExpr:
			if x.Op == token.AND {
				delete(reads, x.X)
			}
		case *ast.SelectorExpr:
			delete(reads, x.Sel)
			_, field := o.objectOf(x.Sel).(*types.Var)
			if isStruct(o.info.TypeOf(x.X)) && (field || o.ofPointer(x)) {
				delete(reads, x.X)
			}
		}
	})
}

func isStruct(t types.Type) bool {
	_, ok := t.Underlying().(*types.Struct)
	return ok
}

func has(n ast.Node, m ast.Node) bool { return n.Pos() <= m.Pos() && m.End() <= n.End() }

// ordered tells whether the language orders the two: one is of the other, or what may be left out is between them, or the read is of a call, and of no conversion or the like, that ends ahead of this one.
func (o *orders) ordered(s ast.Stmt, c *ast.CallExpr, e ast.Expr) bool {
	found := has(c, e) || has(e, c)
	eachWithin(s, func(n ast.Node) {
		switch x := n.(type) {
		case *ast.CallExpr:
			t := o.info.Types[x.Fun]
			found = found || has(x, e) && x.End() <= c.Pos() && !t.IsType() && !t.IsBuiltin()
		case *ast.BinaryExpr:
			if x.Op == token.LAND || x.Op == token.LOR {
				found = found || has(x.X, c) && has(x.Y, e) || has(x.X, e) && has(x.Y, c)
			}
		}
	})
	return found
}
