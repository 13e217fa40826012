package tests

import (
	"go/ast"
	"go/importer"
	"go/parser"
	"go/token"
	"go/types"
	"path/filepath"
	"strings"
	"testing"
)

// openReads are those of one package, whose files these are.
func openReads(t *testing.T, fset *token.FileSet, files []*ast.File) []ast.Expr {
	t.Helper()
	info := &types.Info{Types: map[ast.Expr]types.TypeAndValue{}, Defs: map[*ast.Ident]types.Object{}, Uses: map[*ast.Ident]types.Object{}}
	c := types.Config{Importer: importer.ForCompiler(fset, "source", nil)}
	if _, err := c.Check("impl", fset, files, info); err != nil {
		t.Fatal(err)
	}
	o := newOrders(files, info)
	var l []ast.Expr
	for _, f := range files {
		l = append(l, o.openIn(f)...)
	}
	return l
}

// Promise 15, where no run can tell: a compiler may take either order that the language leaves open, and the answers are to be the same.
func TestNoAnswerHangsOnAnOpenOrder(t *testing.T) {
	names, err := filepath.Glob("../impl/*.go")
	if err != nil || len(names) == 0 {
		t.Fatal(names, err)
	}
	fset := token.NewFileSet()
	var files []*ast.File
	for _, name := range names {
		f, err := parser.ParseFile(fset, name, nil, 0)
		if err != nil {
			t.Fatal(err)
		}
		files = append(files, f)
	}
	for _, e := range openReads(t, fset, files) {
		t.Errorf("%v: %s is read ahead of a call that changes it, or behind it", fset.Position(e.Pos()), types.ExprString(e))
	}
}

// pileSource has statements of which those are open that say so.
const pileSource = `package impl

import "strings"

type pile struct {
	l    []int
	n    int
	text strings.Builder
}

type taker interface{ bump() int }

type pair struct{ a, b int }

func (p *pile) bump() int {
	p.n++
	return p.n
}

func (p *pile) take() int {
	top := len(p.l) - 1
	n := p.l[top]
	p.l = p.l[:top]
	return n
}

func (p *pile) through() int { return p.take() }

func (p *pile) put(q *int) int {
	*q = 1
	p.l[0] = 2
	return 3
}

func (p *pile) sum() int { return len(p.l) + p.n }

func (p *pile) say(s string) int {
	p.text.WriteString(s)
	return 0
}

func (p pile) changed() int {
	p.n = 7
	return p.n
}

func each(p *pile) func(yield func(int) bool) {
	return func(yield func(int) bool) {
		for p.n < 3 && yield(p.n) {
		}
	}
}

func twice(do func() int) int {
	do()
	return do()
}

func add(a int, b int) int { return a + b }

func fields(p *pile, t taker, m map[int]int) (int, int) {
	p.l = append(p.l, p.take()) // open
	p.l = append(p.l, p.through()) // open
	top := p.take()
	p.l = append(p.l, top)
	p.l = append(p.l, p.bump())
	p.l[p.n] = p.bump() // open
	p.n += p.bump() // open
	p.n = p.bump()
	_ = pair{p.n, p.bump()} // open
	_ = pair{a: p.n, b: p.bump()} // open
	_ = pair{a: p.bump(), b: p.bump()}
	_ = p.n + t.bump() // open
	_ = p.bump() + p.n // open
	_ = p.n > 0 && p.bump() > 0
	_ = p.bump() > 0 || p.n > 0
	_ = add(p.n, 1) + p.bump()
	_ = p.bump() + add(p.n, 1) // open
	_ = p.sum() + p.bump()
	_ = len(p.l) + p.take() // open
	_ = int64(p.n) + int64(p.bump()) // open
	_ = len(p.l) > 0 && p.take() > 0
	_ = add(p.n, p.changed())
	_ = p.l[p.bump()]
	_ = p.l[p.take()] // open
	_ = p.text.String() + string(rune(p.say("a")))
	if p.n == p.bump() { // open
	}
	if n := p.n; n == p.bump() {
	}
	for p.n < p.bump() { // open
	}
	switch p.n + p.bump() { // open
	}
	return p.n, p.bump() // open
}

func variables(p *pile, q *int) (int, int) {
	x, y, z := 1, 2, 3
	up := func() int {
		x++
		return x
	}
	_ = x + up() // open
	_ = y + up()
	_ = x + twice(func() int { x++; return x }) // open
	_ = y + twice(func() int { x++; return x })
	_ = *q + p.put(q) // open
	_ = p.l[1] + p.put(q) // open
	_ = z + p.put(q)
	_ = y + p.put(&y) // open
	own := pile{n: 1}
	_ = own.n + own.bump() // open
	_ = own.n + own.changed()
	all := *p
	_, _ = all, p.bump()
	_, _ = *p, p.bump() // open
	for n := range each(p) {
		p.n += n
	}
	return x, up() // open
}

func hand(p *pile, do func() int) int {
	n := p.n
	_ = n + do()
	return p.n + do() // open
}

func handed(p *pile) int { return hand(p, p.bump) }
`

// The look above itself: it finds what is open, and nothing else here.
func TestLookAtOrders(t *testing.T) {
	fset := token.NewFileSet()
	f, err := parser.ParseFile(fset, "pile.go", pileSource, 0)
	if err != nil {
		t.Fatal(err)
	}
	found := map[int]bool{}
	for _, e := range openReads(t, fset, []*ast.File{f}) {
		found[fset.Position(e.Pos()).Line] = true
	}
	for i, line := range strings.Split(pileSource, "\n") {
		if strings.HasSuffix(line, "// open") != found[i+1] {
			t.Errorf("line %d: %s: found: %v", i+1, line, found[i+1])
		}
	}
}
