package tests

import (
	"fmt"
	"math/rand"
	"slices"
	"testing"

	"loop.example/g00719/impl"
)

// flagDecl has so many flags, one variable and one array of 2 numbers.
func flagDecl(flags int) impl.Decl {
	d := smallDecl()
	d.Flags = []string{"b", "c", "f"}[:flags]
	return d
}

func sameTable(a, b []impl.Env) bool { return slices.EqualFunc(a, b, sameEnv) }

func sameNode(a, b impl.Node) bool {
	return a.Flag == b.Flag && a.No == b.No && a.Yes == b.Yes && sameEnv(a.E, b.E)
}

func sameTree(a, b impl.Tree) bool { return slices.EqualFunc(a.Nodes, b.Nodes, sameNode) }

func copyEnv(e impl.Env) impl.Env {
	return impl.Env{Live: e.Live, Ints: slices.Clone(e.Ints), Arrs: slices.Clone(e.Arrs)}
}

func copyTable(t []impl.Env) []impl.Env {
	var l []impl.Env
	for _, e := range t {
		l = append(l, copyEnv(e))
	}
	return l
}

func copyTree(t impl.Tree) impl.Tree {
	var l []impl.Node
	for _, n := range t.Nodes {
		n.E = copyEnv(n.E)
		l = append(l, n)
	}
	return impl.Tree{Nodes: l}
}

// unlikeEnvs differ from each other in as little as they can.
func unlikeEnvs() []impl.Env {
	return []impl.Env{{}, smallEnv(iv(0, 0), iv(0, 0)), smallEnv(iv(0, 1), iv(0, 0)), smallEnv(iv(-1, 0), iv(0, 0)), smallEnv(iv(0, 0), iv(0, 1)), smallEnv(iv(0, 0), iv(-1, 0)), smallEnv(iv(low, top), iv(low, top)), smallEnv(iv(0, 1), iv(0, 1))}
}

// eachTable goes through all tables of flagDecl(flags) that are made of these.
func eachTable(flags int, envs []impl.Env, do func(t []impl.Env)) {
	t := make([]impl.Env, 1<<flags)
	var fill func(i int)
	fill = func(i int) {
		if i == len(t) {
			do(copyTable(t))
			return
		}
		for _, e := range envs {
			t[i] = e
			fill(i + 1)
		}
	}
	fill(0)
}

func someTable(r *rand.Rand, flags int, many int) []impl.Env {
	envs := unlikeEnvs()
	r.Shuffle(len(envs), func(i, j int) { envs[i], envs[j] = envs[j], envs[i] })
	t := make([]impl.Env, 1<<flags)
	for i := range t {
		t[i] = copyEnv(envs[r.Intn(many)])
	}
	return t
}

// plainTree makes nodes from tables that are cut in two, and looks for one that is like.
func plainTree(t []impl.Env) impl.Tree {
	var l []impl.Node
	place := func(n impl.Node) int64 {
		for i, m := range l {
			if sameNode(m, n) {
				return int64(i)
			}
		}
		l = append(l, n)
		return int64(len(l) - 1)
	}
	var of func(t []impl.Env, flag int64) int64
	of = func(t []impl.Env, flag int64) int64 {
		if len(t) == 1 {
			return place(impl.Node{Flag: -1, E: t[0]})
		}
		// Those for which this flag is false stand at even places.
		var no, yes []impl.Env
		for i, e := range t {
			if i%2 == 0 {
				no = append(no, e)
			} else {
				yes = append(yes, e)
			}
		}
		first := of(no, flag+1)
		second := of(yes, flag+1)
		if first == second {
			return first
		}
		return place(impl.Node{Flag: flag, No: first, Yes: second})
	}
	of(t, 0)
	return impl.Tree{Nodes: l}
}

func unlikeOnes(t []impl.Env) int64 {
	var seen []impl.Env
	for _, e := range t {
		if !slices.ContainsFunc(seen, func(o impl.Env) bool { return sameEnv(e, o) }) {
			seen = append(seen, e)
		}
	}
	return int64(len(seen))
}

// checkTree: promise 8, of a right table.
func checkTree(t *testing.T, d impl.Decl, table []impl.Env) impl.Tree {
	t.Helper()
	tree := impl.TreeOf(d, table)
	if want := plainTree(table); !sameTree(tree, want) {
		t.Fatal(table, tree, want)
	}
	if back, ok := impl.TableOf(d, tree); !ok || !sameTable(back, table) {
		t.Fatal("does not come back", table, tree, back)
	}
	if many := impl.Leaves(d, tree); many != unlikeOnes(table) {
		t.Fatal("leaves", table, tree, many)
	}
	if !impl.TreeOk(d, tree) {
		t.Fatal("not right", table, tree)
	}
	return tree
}

// Promise 8, over all tables of few Envs.
func TestTablesComeBackFromTrees(t *testing.T) {
	envs := unlikeEnvs()
	for flags, many := range []int{8, 8, 8, 3} {
		eachTable(flags, envs[:many], func(table []impl.Env) { checkTree(t, flagDecl(flags), table) })
	}
	eachTable(3, envs[6:], func(table []impl.Env) { checkTree(t, flagDecl(3), table) })
	checkTree(t, flagDecl(3), envs)
	r := rand.New(rand.NewSource(8))
	for range 5000 {
		flags := r.Intn(4)
		checkTree(t, flagDecl(flags), someTable(r, flags, 1+r.Intn(8)))
	}
	for range 500 {
		few := []impl.Env{someEnv(r), someEnv(r), {}, someEnv(r)}
		few[1].Ints[r.Intn(5)], few[3].Arrs[r.Intn(2)] = iv(-7, 7), iv(-8, 8)
		table := make([]impl.Env, 8)
		for i := range table {
			table[i] = copyEnv(few[r.Intn(4)])
		}
		checkTree(t, wideDecl(), table)
	}
	// Each interval of a leaf counts, both its ends.
	base := impl.Env{Live: true, Ints: make([]impl.Interval, 5), Arrs: make([]impl.Interval, 2)}
	for i := range 7 {
		for _, a := range []impl.Interval{iv(0, 1), iv(-1, 0)} {
			other := copyEnv(base)
			if i < 5 {
				other.Ints[i] = a
			} else {
				other.Arrs[i-5] = a
			}
			if tree := checkTree(t, wideDecl(), []impl.Env{base, base, base, base, base, base, base, other}); len(tree.Nodes) != 5 {
				t.Error(i, a, tree)
			}
		}
	}
}

func TestTreesAtTheirEdges(t *testing.T) {
	one, two, three := smallEnv(iv(1, 1), iv(0, 0)), smallEnv(iv(2, 2), iv(0, 0)), smallEnv(iv(1, 1), iv(0, 3))
	leaf := func(e impl.Env) impl.Node { return impl.Node{Flag: -1, E: e} }
	asks := func(flag, no, yes int64) impl.Node { return impl.Node{Flag: flag, No: no, Yes: yes} }
	for _, r := range []struct {
		table []impl.Env
		nodes []impl.Node
	}{
		// Without flags, and with one.
		{[]impl.Env{one}, []impl.Node{leaf(one)}}, {[]impl.Env{{}}, []impl.Node{leaf(impl.Env{})}},
		{[]impl.Env{one, one}, []impl.Node{leaf(one)}}, {[]impl.Env{one, two}, []impl.Node{leaf(one), leaf(two), asks(0, 0, 1)}}, {[]impl.Env{{}, one}, []impl.Node{leaf(impl.Env{}), leaf(one), asks(0, 0, 1)}}, {[]impl.Env{{}, {}}, []impl.Node{leaf(impl.Env{})}},
		// The first flag asks, the second one, both; both halves are the same.
		{[]impl.Env{one, two, one, two}, []impl.Node{leaf(one), leaf(two), asks(0, 0, 1)}}, {[]impl.Env{one, one, two, two}, []impl.Node{leaf(one), leaf(two), asks(1, 0, 1)}}, {[]impl.Env{one, two, two, one}, []impl.Node{leaf(one), leaf(two), asks(1, 0, 1), asks(1, 1, 0), asks(0, 2, 3)}}, {[]impl.Env{one, one, one, two}, []impl.Node{leaf(one), leaf(two), asks(1, 0, 1), asks(0, 0, 2)}}, {[]impl.Env{one, two, three, {}}, []impl.Node{leaf(one), leaf(three), asks(1, 0, 1), leaf(two), leaf(impl.Env{}), asks(1, 3, 4), asks(0, 2, 5)}}, {[]impl.Env{two, two, two, two}, []impl.Node{leaf(two)}},
		// Three flags: only the last one asks; alike further down; a node that stands in both halves.
		{[]impl.Env{one, one, one, one, two, two, two, two}, []impl.Node{leaf(one), leaf(two), asks(2, 0, 1)}}, {[]impl.Env{one, one, one, two, two, two, two, one}, []impl.Node{leaf(one), leaf(two), asks(2, 0, 1), asks(2, 1, 0), asks(1, 2, 3), asks(0, 2, 4)}}, {[]impl.Env{one, two, one, one, one, two, one, one}, []impl.Node{leaf(one), leaf(two), asks(1, 1, 0), asks(0, 0, 2)}}, {[]impl.Env{one, {}, one, one, two, {}, two, two}, []impl.Node{leaf(one), leaf(two), asks(2, 0, 1), leaf(impl.Env{}), asks(1, 3, 2), asks(0, 2, 4)}},
	} {
		d := flagDecl(map[int]int{1: 0, 2: 1, 4: 2, 8: 3}[len(r.table)])
		tree := checkTree(t, d, r.table)
		if want := (impl.Tree{Nodes: r.nodes}); !sameTree(tree, want) {
			t.Error(r.table, tree, want)
		}
	}
	// Without names there is one table that is Live, and one that is not.
	for _, e := range []impl.Env{{Live: true}, {}} {
		if tree := checkTree(t, impl.Decl{}, []impl.Env{e}); !sameTree(tree, impl.Tree{Nodes: []impl.Node{leaf(e)}}) {
			t.Error(tree)
		}
	}
}

// checkNoTree: of a tree that is TreeOf of no table.
func checkNoTree(t *testing.T, d impl.Decl, tree impl.Tree) {
	t.Helper()
	if back, ok := impl.TableOf(d, tree); ok || len(back) > 0 {
		t.Fatal("table", d, tree, back)
	}
	if many := impl.Leaves(d, tree); many != -1 {
		t.Fatal("leaves", d, tree, many)
	}
	if impl.TreeOk(d, tree) {
		t.Fatal("right", d, tree)
	}
}

// All trees of at most three small nodes, of one flag and nothing else.
func TestAllSmallTrees(t *testing.T) {
	d := impl.Decl{Flags: []string{"b"}}
	envs := []impl.Env{{}, {Live: true}}
	var right []impl.Tree
	for _, no := range envs {
		for _, yes := range envs {
			right = append(right, plainTree([]impl.Env{no, yes}))
		}
	}
	var nodes []impl.Node
	for flag := int64(-2); flag <= 1; flag++ {
		for no := int64(-1); no <= 2; no++ {
			for yes := int64(-1); yes <= 2; yes++ {
				for _, e := range envs {
					nodes = append(nodes, impl.Node{Flag: flag, No: no, Yes: yes, E: e})
				}
			}
		}
	}
	found := 0
	check := func(tree impl.Tree) {
		if !slices.ContainsFunc(right, func(o impl.Tree) bool { return sameTree(o, tree) }) {
			checkNoTree(t, d, tree)
			return
		}
		found++
		table, ok := impl.TableOf(d, tree)
		if !ok || !sameTree(plainTree(table), tree) || !impl.TreeOk(d, tree) {
			t.Fatal(tree, table, ok)
		}
	}
	check(impl.Tree{})
	check(impl.Tree{Nodes: []impl.Node{}})
	for _, a := range nodes {
		check(impl.Tree{Nodes: []impl.Node{a}})
		for _, b := range nodes {
			check(impl.Tree{Nodes: []impl.Node{a, b}})
			for _, c := range nodes {
				check(impl.Tree{Nodes: []impl.Node{a, b, c}})
			}
		}
	}
	if found != 4 {
		t.Error("right ones:", found)
	}
}

// changes are what comes from a tree by one change of it.
func changes(tree impl.Tree, envs []impl.Env) []impl.Tree {
	var l []impl.Tree
	change := func(do func(n []impl.Node) []impl.Node) {
		l = append(l, impl.Tree{Nodes: do(copyTree(tree).Nodes)})
	}
	many := len(tree.Nodes)
	for i := range many {
		for _, n := range []int64{-2, -1, 0, 1, 2, 3, int64(i), int64(many - 1), int64(many), low, top} {
			change(func(l []impl.Node) []impl.Node { l[i].Flag = n; return l })
			change(func(l []impl.Node) []impl.Node { l[i].No = n; return l })
			change(func(l []impl.Node) []impl.Node { l[i].Yes = n; return l })
			change(func(l []impl.Node) []impl.Node { l[i].No, l[i].Yes = n, n; return l })
		}
		for _, e := range envs {
			change(func(l []impl.Node) []impl.Node { l[i].E = e; return l })
			change(func(l []impl.Node) []impl.Node { return slices.Insert(l, i, impl.Node{Flag: -1, E: e}) })
		}
		change(func(l []impl.Node) []impl.Node { return append(l, l[i]) })
		change(func(l []impl.Node) []impl.Node { return slices.Insert(l, i, l[many-1]) })
		change(func(l []impl.Node) []impl.Node { return slices.Delete(l, i, i+1) })
		change(func(l []impl.Node) []impl.Node { l[i].No, l[i].Yes = l[i].Yes, l[i].No; return l })
		for flag := range int64(3) {
			change(func(l []impl.Node) []impl.Node { return append(l, impl.Node{Flag: flag, No: int64(i), Yes: int64(i)}) })
			change(func(l []impl.Node) []impl.Node {
				return append(l, impl.Node{Flag: flag, No: int64(i), Yes: int64(many - 1)})
			})
		}
		for j := range i {
			change(func(l []impl.Node) []impl.Node { return swapped(l, int64(i), int64(j)) })
			change(func(l []impl.Node) []impl.Node { l[i], l[j] = l[j], l[i]; return l })
		}
	}
	return l
}

// swapped has two nodes in each other's place, and all that ask for them know it.
func swapped(l []impl.Node, i, j int64) []impl.Node {
	l[i], l[j] = l[j], l[i]
	moved := map[int64]int64{i: j, j: i}
	for at := range l {
		if l[at].Flag == -1 {
			continue
		}
		if to, ok := moved[l[at].No]; ok {
			l[at].No = to
		}
		if to, ok := moved[l[at].Yes]; ok {
			l[at].Yes = to
		}
	}
	return l
}

func TestTreesThatAreChanged(t *testing.T) {
	for flags, many := range []int{4, 4, 3, 2} {
		d := flagDecl(flags)
		envs := unlikeEnvs()[:many]
		right := map[string]bool{}
		var trees []impl.Tree
		eachTable(flags, envs, func(table []impl.Env) {
			tree := plainTree(table)
			right[fmt.Sprint(tree)] = true
			trees = append(trees, tree)
		})
		checked, still := 0, 0
		for _, tree := range trees {
			for _, other := range changes(tree, envs) {
				checked++
				if !right[fmt.Sprint(other)] {
					checkNoTree(t, d, other)
					continue
				}
				still++
				if table, ok := impl.TableOf(d, other); !ok || !sameTree(plainTree(table), other) {
					t.Fatal(other, table, ok)
				}
			}
		}
		if checked < 50*len(trees) || still == checked {
			t.Error(flags, checked, still)
		}
	}
}

func TestTreesThatAreNone(t *testing.T) {
	one, two := smallEnv(iv(1, 1), iv(0, 0)), smallEnv(iv(2, 2), iv(0, 0))
	leaf := func(e impl.Env) impl.Node { return impl.Node{Flag: -1, E: e} }
	asks := func(flag, no, yes int64) impl.Node { return impl.Node{Flag: flag, No: no, Yes: yes} }
	with := func(n impl.Node, e impl.Env) impl.Node { n.E = e; return n }
	for _, nodes := range [][]impl.Node{
		nil, {}, {asks(0, 0, 0)}, {asks(0, 0, 1)}, {asks(1, 0, 0), asks(0, 0, 1)},
		// In another order; the root is not the last one.
		{leaf(two), leaf(one), asks(0, 1, 0)}, {leaf(one), asks(0, 0, 2), leaf(two)}, {asks(0, 1, 2), leaf(one), leaf(two)}, {leaf(one), leaf(two), asks(0, 0, 1), leaf(one)},
		// One too many: twice the same, or nobody asks for it.
		{leaf(one), leaf(one), asks(0, 0, 1)}, {leaf(one), leaf(one)}, {leaf(two), leaf(one)}, {leaf(impl.Env{}), leaf(one), leaf(two), asks(0, 1, 2)}, {leaf(one), leaf(two), leaf(impl.Env{}), asks(0, 0, 1)}, {leaf(one), leaf(two), asks(1, 0, 1), asks(0, 0, 1)}, {leaf(one), leaf(two), asks(0, 0, 1), asks(0, 0, 1)},
		// It asks for nothing: both answers are the same, or the flag was asked ahead of it.
		{leaf(one), asks(0, 0, 0)}, {leaf(one), leaf(two), asks(1, 0, 0), asks(0, 2, 1)}, {leaf(one), leaf(two), asks(0, 0, 1), asks(1, 0, 1), asks(0, 2, 3)}, {leaf(one), leaf(two), asks(0, 0, 1), asks(1, 0, 2)},
		// A place that is none, or its own, or of one behind it.
		{leaf(one), leaf(two), asks(0, 0, 3)}, {leaf(one), leaf(two), asks(0, -1, 1)}, {leaf(one), leaf(two), asks(0, 0, 2)}, {leaf(one), leaf(two), asks(0, low, top)}, {leaf(one), leaf(two), asks(1, 0, 3), asks(0, 2, 1)}, {asks(0, 2, 1), asks(1, 0, 2), asks(0, 0, 1)},
		// A flag that is none.
		{leaf(one), leaf(two), asks(2, 0, 1)}, {leaf(one), leaf(two), asks(3, 0, 1)}, {leaf(one), leaf(two), asks(-2, 0, 1)}, {leaf(one), leaf(two), asks(low, 0, 1)}, {leaf(one), leaf(two), asks(top, 0, 1)}, {leaf(one), leaf(two), asks(64, 0, 1)}, {{Flag: -2, E: one}},
		// Fields that are not of that kind of node.
		{{Flag: -1, No: 1, E: one}}, {{Flag: -1, Yes: 1, E: one}}, {{Flag: -1, No: -1, E: one}}, {{E: one}}, {leaf(one), leaf(two), with(asks(0, 0, 1), one)}, {leaf(one), leaf(two), with(asks(0, 0, 1), impl.Env{Ints: one.Ints})},
		// Envs that are not right: in the leaf that is asked for, and in one that is not.
		{leaf(impl.Env{Live: true})}, {leaf(impl.Env{Ints: one.Ints, Arrs: one.Arrs})}, {leaf(smallEnv(iv(1, 0), iv(0, 0)))}, {leaf(smallEnv(iv(0, 0), iv(1, 0)))}, {leaf(one), leaf(smallEnv(iv(2, 1), iv(0, 0))), asks(0, 0, 1)}, {leaf(impl.Env{Live: true, Ints: make([]impl.Interval, 6), Arrs: make([]impl.Interval, 1)})}, {leaf(one), leaf(impl.Env{Live: true, Ints: make([]impl.Interval, 1), Arrs: make([]impl.Interval, 9)}), asks(0, 0, 1)}, {leaf(impl.Env{Live: true, Ints: make([]impl.Interval, 2), Arrs: make([]impl.Interval, 1)})}, {leaf(one), with(leaf(two), impl.Env{Live: true, Ints: make([]impl.Interval, 9)}), asks(0, 0, 0)},
	} {
		checkNoTree(t, flagDecl(2), impl.Tree{Nodes: nodes})
	}
	right := []impl.Node{leaf(one), leaf(two), asks(1, 0, 1)}
	if !impl.TreeOk(flagDecl(2), impl.Tree{Nodes: right}) || !impl.TreeOk(flagDecl(3), impl.Tree{Nodes: right}) {
		t.Error("right one")
	}
	// It is right of a declaration that has the flag.
	checkNoTree(t, flagDecl(1), impl.Tree{Nodes: right})
	checkNoTree(t, flagDecl(0), impl.Tree{Nodes: right})
	for _, e := range wrongEnvs() {
		checkNoTree(t, wideDecl(), impl.Tree{Nodes: []impl.Node{leaf(e)}})
		checkNoTree(t, wideDecl(), impl.Tree{Nodes: []impl.Node{leaf(impl.Env{}), with(leaf(e), e), asks(0, 0, 1)}})
		checkNoTree(t, wideDecl(), impl.Tree{Nodes: []impl.Node{leaf(impl.Env{}), leaf(impl.Env{Live: true, Ints: make([]impl.Interval, 5), Arrs: make([]impl.Interval, 2)}), with(asks(0, 0, 1), e)}})
	}
	// Many nodes, also those that go round, come to an end.
	checkNoTree(t, flagDecl(3), impl.Tree{Nodes: slices.Repeat([]impl.Node{asks(0, 7, 8)}, 5000)})
	checkNoTree(t, flagDecl(3), impl.Tree{Nodes: append(slices.Repeat(right, 5000), leaf(one))})
}

func TestEmptyListsInTrees(t *testing.T) {
	d := flagDecl(1)
	none := impl.Env{Ints: []impl.Interval{}, Arrs: []impl.Interval{}}
	one := smallEnv(iv(1, 1), iv(0, 0))
	// An empty list and none are the same, and make no two leaves of one.
	if tree := checkTree(t, d, []impl.Env{none, {}}); len(tree.Nodes) != 1 {
		t.Error(tree)
	}
	tree := impl.Tree{Nodes: []impl.Node{{Flag: -1, E: none}, {Flag: -1, E: one}, {Flag: 0, Yes: 1, E: none}}}
	if table, ok := impl.TableOf(d, tree); !ok || !sameTable(table, []impl.Env{{}, one}) || impl.Leaves(d, tree) != 2 {
		t.Error(table, ok)
	}
}

// wrongTables are none of flagDecl(flags).
func wrongTables(flags int) [][]impl.Env {
	full := slices.Repeat([]impl.Env{smallEnv(iv(0, 3), iv(0, 3))}, 1<<flags)
	l := [][]impl.Env{nil, {}, full[1:], append(slices.Clone(full), impl.Env{}), slices.Repeat(full, 2)}
	wrong := []impl.Env{{Live: true}, {Ints: full[0].Ints}, {Arrs: full[0].Arrs}, smallEnv(iv(1, 0), iv(0, 0)), smallEnv(iv(0, 0), iv(1, 0)), {Live: true, Ints: make([]impl.Interval, 2), Arrs: make([]impl.Interval, 1)}, {Live: true, Ints: make([]impl.Interval, 1), Arrs: make([]impl.Interval, 2)}, {Live: true, Ints: make([]impl.Interval, 9), Arrs: make([]impl.Interval, 9)}}
	for i := range full {
		for _, e := range wrong {
			table := slices.Clone(full)
			table[i] = e
			l = append(l, table)
		}
	}
	return l
}

func TestRightTables(t *testing.T) {
	for flags := range 4 {
		d := flagDecl(flags)
		eachTable(flags, unlikeEnvs()[:2], func(table []impl.Env) {
			if !impl.TableOk(d, table) || !impl.TableLeq(d, table, table) {
				t.Fatal(table)
			}
		})
		for _, table := range wrongTables(flags) {
			if impl.TableOk(d, table) {
				t.Error(flags, table)
			}
		}
		for other := range 4 {
			if impl.TableOk(flagDecl(other), make([]impl.Env, 1<<flags)) != (other == flags) {
				t.Error(flags, other)
			}
		}
	}
	if !impl.TableOk(impl.Decl{}, []impl.Env{{Live: true}}) || !impl.TableOk(impl.Decl{}, []impl.Env{{}}) || impl.TableOk(impl.Decl{}, nil) {
		t.Error("without names")
	}
}

func TestTablesHave(t *testing.T) {
	r := rand.New(rand.NewSource(80))
	had := 0
	for range 3000 {
		flags := r.Intn(4)
		d, table := flagDecl(flags), someTable(r, flags, 8)
		for _, s := range smallStores([]int64{-1, 0, 1}) {
			s.Flags = make([]bool, flags)
			leaf := 0
			for i := range flags {
				if r.Intn(2) == 0 {
					s.Flags[i] = true
					leaf += []int{1, 2, 4}[i]
				}
			}
			has := impl.TableHas(d, table, s)
			if has != impl.EnvHas(d, table[leaf], s) {
				t.Fatal(table, s, has)
			}
			if has {
				had++
			}
		}
	}
	if had < 1000 {
		t.Error("had only", had)
	}
	// One leaf alone is Live: one run of the flags is there.
	s := impl.StoreNew(flagDecl(3))
	for leaf := range 8 {
		table := make([]impl.Env, 8)
		table[leaf] = smallEnv(iv(0, 0), iv(0, 0))
		for i := range 8 {
			s.Flags = []bool{i&1 == 1, i&2 == 2, i&4 == 4}
			if impl.TableHas(flagDecl(3), table, s) != (i == leaf) {
				t.Error(leaf, i)
			}
		}
	}
	all := slices.Repeat([]impl.Env{{Live: true, Ints: slices.Repeat([]impl.Interval{iv(low, top)}, 5), Arrs: slices.Repeat([]impl.Interval{iv(low, top)}, 2)}}, 8)
	if !impl.TableHas(wideDecl(), all, wideStore(low, top, 0, true, false)) {
		t.Error("has")
	}
	for i, s := range wrongStores() {
		if impl.TableHas(wideDecl(), all, s) || impl.TableHas(wideDecl(), make([]impl.Env, 8), s) {
			t.Error("store", i)
		}
	}
	// More flags than there are name no leaf.
	for _, flags := range [][]bool{{true, true, true, true}, {false, false, false, true}, {true, true}, slices.Repeat([]bool{true}, 70)} {
		s := impl.StoreNew(wideDecl())
		s.Flags = flags
		if impl.TableHas(wideDecl(), all, s) {
			t.Error(flags)
		}
	}
	for flags := range 4 {
		for _, table := range wrongTables(flags) {
			if impl.TableHas(flagDecl(flags), table, impl.StoreNew(flagDecl(flags))) {
				t.Error(flags, table)
			}
		}
	}
}

func TestTablesLeafByLeaf(t *testing.T) {
	r := rand.New(rand.NewSource(81))
	within := 0
	for range 20000 {
		flags := r.Intn(4)
		d := flagDecl(flags)
		a, b := someTable(r, flags, 8), someTable(r, flags, 8)
		if r.Intn(2) == 0 {
			// Unlike in one leaf alone.
			b = copyTable(a)
			b[r.Intn(len(b))] = copyEnv(unlikeEnvs()[r.Intn(8)])
		}
		steps := []int64{-4, 0, r.Int63n(9)}[:r.Intn(4)]
		leq := true
		var joined, widened []impl.Env
		for i := range a {
			leq = leq && impl.EnvLeq(d, a[i], b[i])
			joined = append(joined, impl.EnvJoin(d, a[i], b[i]))
			widened = append(widened, impl.EnvWiden(d, a[i], b[i], steps))
		}
		if leq {
			within++
		}
		j, w := impl.TableJoin(d, a, b), impl.TableWiden(d, a, b, steps)
		if impl.TableLeq(d, a, b) != leq || !sameTable(j, joined) || !sameTable(w, widened) {
			t.Fatal(a, b, steps, leq, j, w)
		}
		for _, above := range [][]impl.Env{j, w} {
			if !impl.TableOk(d, above) || !impl.TableLeq(d, a, above) || !impl.TableLeq(d, b, above) {
				t.Fatal("not above", a, b, above)
			}
		}
	}
	if within < 1000 || within > 15000 {
		t.Error("within:", within)
	}
}

func TestTablesWidenedWithSoManySteps(t *testing.T) {
	many := slices.Repeat([]int64{7}, 101)
	for flags := range 4 {
		d := flagDecl(flags)
		a := slices.Repeat([]impl.Env{smallEnv(iv(0, 3), iv(0, 3))}, 1<<flags)
		b := slices.Repeat([]impl.Env{smallEnv(iv(-1, 3), iv(0, 4))}, 1<<flags)
		none := make([]impl.Env, 1<<flags)
		for _, r := range [][2][]impl.Env{{a, b}, {a, none}, {none, b}, {none, none}} {
			if w := impl.TableWiden(d, r[0], r[1], many); len(w) != 0 {
				t.Error("101", w)
			}
			if w := impl.TableWiden(d, r[0], r[1], many[:100]); len(w) != 1<<flags {
				t.Error("100", w)
			}
		}
		if w := impl.TableWiden(d, a, b, many[:100]); !sameTable(w, slices.Repeat([]impl.Env{smallEnv(iv(low, 3), iv(0, 7))}, 1<<flags)) {
			t.Error(w)
		}
		if w := impl.TableWiden(d, a, b, nil); !sameTable(w, slices.Repeat([]impl.Env{smallEnv(iv(low, 3), iv(0, top))}, 1<<flags)) {
			t.Error(w)
		}
	}
}

// checkNoTables: of a and b, of which one at least is not right, or of a wrong declaration.
func checkNoTables(t *testing.T, d impl.Decl, a, b []impl.Env) {
	t.Helper()
	if impl.TableLeq(d, a, b) {
		t.Error("leq", d, a, b)
	}
	if j := impl.TableJoin(d, a, b); len(j) != 0 {
		t.Error("join", d, a, b, j)
	}
	for _, steps := range [][]int64{nil, {1}, make([]int64, 101)} {
		if w := impl.TableWiden(d, a, b, steps); len(w) != 0 {
			t.Error("widen", d, a, b, w)
		}
	}
}

func TestTablesOfWhatIsWrong(t *testing.T) {
	for flags := range 4 {
		d := flagDecl(flags)
		right := slices.Repeat([]impl.Env{smallEnv(iv(0, 9), iv(0, 9))}, 1<<flags)
		for _, wrong := range wrongTables(flags) {
			for _, other := range [][]impl.Env{right, make([]impl.Env, 1<<flags), wrong} {
				checkNoTables(t, d, wrong, other)
				checkNoTables(t, d, other, wrong)
			}
			if tree := impl.TreeOf(d, wrong); len(tree.Nodes) != 0 {
				t.Error(wrong, tree)
			}
		}
	}
	for _, e := range wrongEnvs() {
		table := make([]impl.Env, 8)
		table[5] = e
		checkNoTables(t, wideDecl(), table, table)
		if tree := impl.TreeOf(wideDecl(), table); len(tree.Nodes) != 0 || impl.TableOk(wideDecl(), table) {
			t.Error(e, tree)
		}
	}
}

func TestTablesAndTreesOfWrongDeclarations(t *testing.T) {
	many := make([]string, 70)
	for _, d := range append(wrongDecls(), impl.Decl{Flags: []string{"b", "c", "e", "f"}}, impl.Decl{Flags: many}, impl.Decl{Flags: []string{"b", "b"}}) {
		full := impl.Env{Live: true, Ints: make([]impl.Interval, len(d.Vars)), Arrs: make([]impl.Interval, len(d.Arrays))}
		s := impl.Store{Ints: make([]int64, len(d.Vars)), Flags: make([]bool, len(d.Flags)), Arrs: make([][]int64, len(d.Arrays))}
		for i, a := range d.Arrays {
			s.Arrs[i] = make([]int64, a.Size)
		}
		for _, e := range []impl.Env{full, {}} {
			table := slices.Repeat([]impl.Env{e}, 1<<min(len(d.Flags), 4))
			for _, l := range [][]impl.Env{table, nil} {
				checkNoTables(t, d, l, l)
				if impl.TableOk(d, l) || impl.TableHas(d, l, s) || len(impl.TreeOf(d, l).Nodes) != 0 {
					t.Error(d, l)
				}
			}
			checkNoTree(t, d, impl.Tree{Nodes: []impl.Node{{Flag: -1, E: e}}})
		}
		checkNoTree(t, d, impl.Tree{})
	}
}

// spoil writes into an Env all over, and behind its lists.
func spoil(e *impl.Env) {
	for i := range e.Ints {
		e.Ints[i] = iv(-99, 99)
	}
	for i := range e.Arrs {
		e.Arrs[i] = iv(-98, 98)
	}
	e.Live = !e.Live
	e.Ints, e.Arrs = append(e.Ints, iv(1, 2)), append(e.Arrs, iv(3, 4))
}

// spoilAll spoils one after the other, and asks each time whether those behind it are as they were.
func spoilAll(t *testing.T, envs []*impl.Env) {
	t.Helper()
	var before []impl.Env
	for _, e := range envs {
		before = append(before, copyEnv(*e))
	}
	for i, e := range envs {
		spoil(e)
		for j := i + 1; j < len(envs); j++ {
			if !sameEnv(*envs[j], before[j]) {
				t.Fatal("shared by two of one answer", i, j)
			}
		}
	}
}

func envsOf(table []impl.Env) []*impl.Env {
	var l []*impl.Env
	for i := range table {
		l = append(l, &table[i])
	}
	return l
}

// withSpare has room behind each list, with something in it.
func withSpare(table []impl.Env) []impl.Env {
	l := append(copyTable(table), smallEnv(iv(55, 55), iv(56, 56)))
	for i, e := range l {
		if e.Live {
			l[i].Ints, l[i].Arrs = append(e.Ints, iv(77, 77))[:1], append(e.Arrs, iv(78, 78))[:1]
		}
	}
	return l[:len(table)]
}

func checkSpare(t *testing.T, table, before []impl.Env) {
	t.Helper()
	if !sameTable(table, before) || !sameEnv(table[:len(table)+1][len(table)], smallEnv(iv(55, 55), iv(56, 56))) {
		t.Fatal("written into", table, before)
	}
	for _, e := range table {
		if e.Live && (e.Ints[:2][1] != iv(77, 77) || e.Arrs[:2][1] != iv(78, 78)) {
			t.Fatal("written behind", e)
		}
	}
}

// Promise 15, of this chapter.
func TestTablesAndTreesShareNothing(t *testing.T) {
	r := rand.New(rand.NewSource(82))
	for range 400 {
		flags := r.Intn(4)
		d := flagDecl(flags)
		a, b := someTable(r, flags, 1+r.Intn(4)), someTable(r, flags, 1+r.Intn(4))
		none := make([]impl.Env, 1<<flags)
		steps := []int64{5, -5, 9}
		for _, make := range []func(x, y []impl.Env) []impl.Env{
			func(x, y []impl.Env) []impl.Env { return impl.TableJoin(d, x, y) },
			func(x, y []impl.Env) []impl.Env { return impl.TableJoin(d, x, x) },
			func(x, y []impl.Env) []impl.Env { return impl.TableJoin(d, x, none) },
			func(x, y []impl.Env) []impl.Env { return impl.TableJoin(d, none, y) },
			func(x, y []impl.Env) []impl.Env { return impl.TableWiden(d, x, y, steps[:2]) },
			func(x, y []impl.Env) []impl.Env { return impl.TableWiden(d, none, y, steps[:2]) },
		} {
			x, y := withSpare(a), withSpare(b)
			got := make(x, y)
			again := make(x, y)
			spoilAll(t, envsOf(got))
			if !sameTable(again, make(x, y)) || !slices.Equal(steps, []int64{5, -5, 9}) {
				t.Fatal("kept", a, b)
			}
			checkSpare(t, x, a)
			checkSpare(t, y, b)
		}
		x := withSpare(a)
		impl.TableOk(d, x)
		impl.TableLeq(d, x, x)
		impl.TableHas(d, x, impl.StoreNew(d))
		tree := impl.TreeOf(d, x)
		var envs []*impl.Env
		for i := range tree.Nodes {
			envs = append(envs, &tree.Nodes[i].E)
		}
		spoilAll(t, envs)
		checkSpare(t, x, a)

		tree = impl.TreeOf(d, x)
		kept := copyTree(tree)
		table, _ := impl.TableOf(d, tree)
		spoilAll(t, envsOf(table))
		impl.TreeOk(d, tree)
		impl.Leaves(d, tree)
		if !sameTree(tree, kept) || !sameTree(impl.TreeOf(d, x), kept) {
			t.Fatal("tree", tree, kept)
		}
		if !sameDecl(d, flagDecl(flags)) {
			t.Error("declaration")
		}
	}
}

// Promise 15: whatever order a map is gone through in, the answer is the same.
func TestTreesAreTheSameEachTime(t *testing.T) {
	table := unlikeEnvs()
	first := impl.TreeOf(flagDecl(3), table)
	if len(first.Nodes) != 15 {
		t.Error(first)
	}
	for range 200 {
		if again := impl.TreeOf(flagDecl(3), table); !sameTree(again, first) {
			t.Fatal(again, first)
		}
	}
}
