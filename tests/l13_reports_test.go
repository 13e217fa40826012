package tests

import (
	"fmt"
	"math/rand"
	"regexp"
	"slices"
	"strings"
	"testing"

	"loop.example/g00719/impl"
)

// plainEnvText is for right bounds.
func plainEnvText(d impl.Decl, e impl.Env) string {
	text := ""
	for i, a := range e.Ints {
		text += fmt.Sprintf(" %s %d..%d", d.Vars[i], a.Lo, a.Hi)
	}
	for i, a := range e.Arrs {
		text += fmt.Sprintf(" %s %d..%d", d.Arrays[i].Name, a.Lo, a.Hi)
	}
	switch {
	case !e.Live:
		return "none"
	case text == "":
		return "all"
	}
	return text[1:]
}

// plainTreeText goes by the table: flags that make no difference are not asked.
func plainTreeText(d impl.Decl, table []impl.Env) string {
	if len(table) == 1 {
		return "[" + plainEnvText(d, table[0]) + "]"
	}
	var no, yes []impl.Env
	for i := 0; i < len(table); i += 2 {
		no, yes = append(no, table[i]), append(yes, table[i+1])
	}
	rest := d
	rest.Flags = d.Flags[1:]
	if sameTable(no, yes) {
		return plainTreeText(rest, no)
	}
	return d.Flags[0] + "(" + plainTreeText(rest, yes) + " | " + plainTreeText(rest, no) + ")"
}

// plainStoreText is for a store of d.
func plainStoreText(d impl.Decl, s impl.Store) string {
	text := ""
	for i, n := range s.Ints {
		text += fmt.Sprintf("%s %d ", d.Vars[i], n)
	}
	for i, holds := range s.Flags {
		text += fmt.Sprintf("%s %v ", d.Flags[i], holds)
	}
	for i, l := range s.Arrs {
		text += d.Arrays[i].Name + " " + strings.Trim(fmt.Sprint(l), "[]") + " "
	}
	return strings.TrimSuffix(text, " ")
}

// plainRowText is for right Parts.
func plainRowText(d impl.Decl, l []impl.Part) string {
	if len(l) == 0 {
		return "none"
	}
	var texts []string
	for _, p := range l {
		texts = append(texts, plainTokenText(p.Token)+" "+plainTreeText(d, p.Table))
	}
	return strings.Join(texts, " / ")
}

// textBook knows of each text what it was of: no two unlike ones may have the same.
type textBook map[string]string

func (b textBook) put(t *testing.T, text, of string) {
	t.Helper()
	other, there := b[text]
	if there && other != of {
		t.Fatalf("%q is the text of %s and of %s", text, other, of)
	}
	b[text] = of
}

func TestTextsOfBounds(t *testing.T) {
	names := impl.Decl{Vars: []string{"none", "all"}, Flags: []string{"b"}, Arrays: []impl.Arr{{Name: "c", Size: 16}, {Name: "longname", Size: 1}}}
	vars, arrays := impl.Decl{Vars: []string{"x", "y"}}, impl.Decl{Arrays: []impl.Arr{{Name: "a", Size: 2}}}
	of := func(l ...impl.Interval) []impl.Interval { return l }
	for _, r := range []struct {
		d    impl.Decl
		e    impl.Env
		want string
	}{
		{impl.Decl{}, impl.Env{}, "none"}, {impl.Decl{}, impl.Env{Live: true}, "all"}, {impl.Decl{Flags: []string{"b", "c"}}, impl.Env{Live: true}, "all"}, {impl.Decl{Flags: []string{"b", "c"}}, impl.Env{}, "none"},
		{vars, impl.Env{}, "none"}, {vars, impl.Env{Ints: of(), Arrs: of()}, "none"}, {vars, impl.Env{Live: true, Ints: of(iv(0, 0), iv(-7, 10))}, "x 0..0 y -7..10"}, {vars, impl.Env{Live: true, Ints: of(iv(low, top), iv(top, top))}, "x -9223372036854775808..9223372036854775807 y 9223372036854775807..9223372036854775807"}, {vars, impl.Env{Live: true, Ints: of(iv(low, low), iv(-1, -1)), Arrs: of()}, "x -9223372036854775808..-9223372036854775808 y -1..-1"},
		{arrays, impl.Env{}, "none"}, {arrays, impl.Env{Live: true, Arrs: of(iv(-1, 2))}, "a -1..2"}, {arrays, impl.Env{Live: true, Arrs: of(iv(low, top))}, "a -9223372036854775808..9223372036854775807"},
		{names, impl.Env{}, "none"}, {names, impl.Env{Live: true, Ints: of(iv(1, 2), iv(3, 4)), Arrs: of(iv(5, 6), iv(7, 8))}, "none 1..2 all 3..4 c 5..6 longname 7..8"},
		// What is not right.
		{impl.Decl{}, impl.Env{Ints: of(iv(0, 0))}, ""}, {impl.Decl{}, impl.Env{Live: true, Arrs: of(iv(0, 0))}, ""}, {vars, impl.Env{Live: true}, ""}, {vars, impl.Env{Ints: of(iv(0, 0), iv(0, 0))}, ""}, {vars, impl.Env{Live: true, Ints: of(iv(0, 0), iv(1, 0))}, ""}, {vars, impl.Env{Live: true, Arrs: of(iv(0, 0), iv(0, 0))}, ""}, {arrays, impl.Env{Live: true, Ints: of(iv(0, 0))}, ""}, {arrays, impl.Env{Live: true, Arrs: of(iv(top, low))}, ""},
	} {
		if s := impl.EnvText(r.d, r.e); s != r.want {
			t.Errorf("%v: %q, not %q", r.e, s, r.want)
		}
		if impl.EnvOk(r.d, r.e) && plainEnvText(r.d, r.e) != r.want {
			t.Errorf("%q", r.want)
		}
	}
	for i, e := range wrongEnvs() {
		if s := impl.EnvText(wideDecl(), e); s != "" {
			t.Error(i, s)
		}
	}
	book := textBook{}
	for _, e := range append(smallEnvs(fewNumbers()), unlikeEnvs()...) {
		s := impl.EnvText(smallDecl(), e)
		if s != plainEnvText(smallDecl(), e) {
			t.Fatal(e, s)
		}
		book.put(t, s, fmt.Sprint(e))
	}
	wide := textBook{}
	r := rand.New(rand.NewSource(130))
	for range 3000 {
		e := someEnv(r)
		s := impl.EnvText(wideDecl(), e)
		if s != plainEnvText(wideDecl(), e) {
			t.Fatal(e, s)
		}
		wide.put(t, s, fmt.Sprint(e))
	}
	if len(book) < 1000 || len(wide) < 2500 {
		t.Error(len(book), len(wide))
	}
}

func TestTextsOfTrees(t *testing.T) {
	x := func(lo, hi int64) impl.Env { return impl.Env{Live: true, Ints: []impl.Interval{iv(lo, hi)}} }
	none := impl.Env{}
	one, two, six := x(1, 1), x(0, 2), x(-6, 6)
	for _, r := range []struct {
		flags string
		table []impl.Env
		want  string
	}{
		{"", []impl.Env{one}, "[x 1..1]"}, {"", []impl.Env{none}, "[none]"},
		{"b", []impl.Env{one, one}, "[x 1..1]"}, {"b", []impl.Env{none, none}, "[none]"},
		// That for true comes ahead.
		{"b", []impl.Env{one, two}, "b([x 0..2] | [x 1..1])"}, {"b", []impl.Env{none, one}, "b([x 1..1] | [none])"}, {"b", []impl.Env{one, none}, "b([none] | [x 1..1])"},
		{"b c", []impl.Env{one, two, one, two}, "b([x 0..2] | [x 1..1])"}, {"b c", []impl.Env{one, one, two, two}, "c([x 0..2] | [x 1..1])"}, {"b c", []impl.Env{one, two, six, none}, "b(c([none] | [x 0..2]) | c([x -6..6] | [x 1..1]))"}, {"b c", []impl.Env{one, two, two, one}, "b(c([x 1..1] | [x 0..2]) | c([x 0..2] | [x 1..1]))"}, {"b c", []impl.Env{one, one, one, none}, "b(c([none] | [x 1..1]) | [x 1..1])"},
		{"b c f", []impl.Env{one, one, one, one, two, two, two, two}, "f([x 0..2] | [x 1..1])"}, {"b c f", []impl.Env{one, one, one, one, one, one, one, one}, "[x 1..1]"}, {"b c f", []impl.Env{x(0, 0), x(0, 1), x(0, 2), x(0, 3), x(0, 4), x(0, 5), x(0, 6), x(0, 7)}, "b(c(f([x 0..7] | [x 0..3]) | f([x 0..5] | [x 0..1])) | c(f([x 0..6] | [x 0..2]) | f([x 0..4] | [x 0..0])))"}, {"b c f", []impl.Env{one, none, one, one, two, none, two, two}, "b(c(f([x 0..2] | [x 1..1]) | [none]) | f([x 0..2] | [x 1..1]))"},
		{"true", []impl.Env{one, two}, ""}, {"b", []impl.Env{one}, ""}, {"", []impl.Env{one, one}, ""}, {"b", []impl.Env{one, x(1, 0)}, ""},
	} {
		d := impl.Decl{Vars: []string{"x"}, Flags: strings.Fields(r.flags)}
		if s := impl.TreeText(d, impl.TreeOf(d, r.table)); s != r.want {
			t.Errorf("%v: %q, not %q", r.table, s, r.want)
		}
	}
	for _, d := range []impl.Decl{{}, {Flags: []string{"b"}}} {
		if s := impl.TreeText(d, impl.Tree{Nodes: []impl.Node{{Flag: -1, E: impl.Env{Live: true}}}}); s != "[all]" {
			t.Error(s)
		}
	}
	both := impl.Tree{Nodes: []impl.Node{{Flag: -1}, {Flag: -1, E: impl.Env{Live: true}}, {Flag: 0, No: 0, Yes: 1}}}
	if s := impl.TreeText(impl.Decl{Flags: []string{"b"}}, both); s != "b([all] | [none])" {
		t.Error(s)
	}
}

// Promise 13: unlike right tables have trees with unlike texts.
func TestUnlikeTablesHaveUnlikeTexts(t *testing.T) {
	for flags, many := range []int{8, 8, 8, 3} {
		book, tables := textBook{}, 0
		d := flagDecl(flags)
		eachTable(flags, unlikeEnvs()[:many], func(table []impl.Env) {
			s := impl.TreeText(d, impl.TreeOf(d, table))
			if s != plainTreeText(d, table) {
				t.Fatal(table, s)
			}
			book.put(t, s, fmt.Sprint(table))
			tables++
		})
		if len(book) != tables {
			t.Error(flags, len(book), tables)
		}
	}
	r := rand.New(rand.NewSource(131))
	for flags := range 4 {
		book := textBook{}
		d := flagDecl(flags)
		for range 4000 {
			table := someTable(r, flags, 1+r.Intn(8))
			s := impl.TreeText(d, impl.TreeOf(d, table))
			if s != plainTreeText(d, table) {
				t.Fatal(table, s)
			}
			book.put(t, s, fmt.Sprint(table))
		}
	}
	// Tables that are unlike in one end of one interval alone.
	base := impl.Env{Live: true, Ints: make([]impl.Interval, 5), Arrs: make([]impl.Interval, 2)}
	book := textBook{}
	for leaf := range 8 {
		for i := range 7 {
			for _, a := range []impl.Interval{iv(0, 0), iv(0, 1), iv(-1, 0), iv(1, 1), iv(low, top)} {
				table := copyTable(slices.Repeat([]impl.Env{base}, 8))
				if i < 5 {
					table[leaf].Ints[i] = a
				} else {
					table[leaf].Arrs[i-5] = a
				}
				s := impl.TreeText(wideDecl(), impl.TreeOf(wideDecl(), table))
				if s != plainTreeText(wideDecl(), table) {
					t.Fatal(table, s)
				}
				book.put(t, s, fmt.Sprint(table))
			}
		}
	}
	if len(book) != 1+8*7*4 {
		t.Error(len(book))
	}
}

// Trees that are the tree of no table have no text.
func TestTextsOfOtherTrees(t *testing.T) {
	r := rand.New(rand.NewSource(132))
	right, wrong := 0, 0
	for range 60 {
		flags := r.Intn(4)
		d := flagDecl(flags)
		tree := impl.TreeOf(d, someTable(r, flags, 1+r.Intn(4)))
		for _, other := range changes(tree, unlikeEnvs()[:3]) {
			want := ""
			if table, ok := impl.TableOf(d, other); ok {
				want = plainTreeText(d, table)
				right++
			} else {
				wrong++
			}
			if s := impl.TreeText(d, other); s != want {
				t.Fatal(other, s, want)
			}
		}
	}
	if right < 50 || wrong < 1000 {
		t.Error(right, wrong)
	}
	if s := impl.TreeText(flagDecl(1), impl.Tree{}); s != "" {
		t.Error(s)
	}
	// Nodes that ask for each other, for themselves, and far off.
	leaf := impl.Node{Flag: -1, E: smallEnv(iv(0, 0), iv(0, 0))}
	for _, n := range []int64{low, -1, 0, 1, 2, 3, top} {
		for _, flag := range []int64{low, -2, 0, 1, 2, top} {
			for _, l := range [][]impl.Node{{{Flag: flag, No: n, Yes: n}}, {leaf, {Flag: flag, No: n, Yes: n}}, {leaf, {Flag: flag, No: 0, Yes: n}}, {leaf, {Flag: flag, No: 2, Yes: 0}, {Flag: flag, No: 1, Yes: n}}} {
				if s := impl.TreeText(flagDecl(2), impl.Tree{Nodes: l}); s != "" {
					t.Error(l, s)
				}
			}
		}
	}
	if s := impl.TreeText(flagDecl(1), impl.Tree{Nodes: make([]impl.Node, 100000)}); s != "" {
		t.Error(len(s))
	}
}

func TestTextsOfStores(t *testing.T) {
	counted := func(many int) []int64 {
		var l []int64
		for i := range int64(many) {
			l = append(l, i-1)
		}
		return l
	}
	const sixteen = "-1 0 1 2 3 4 5 6 7 8 9 10 11 12 13 14"
	for _, r := range []struct {
		head string
		s    impl.Store
		want string
	}{
		{"", impl.Store{}, ""}, {"", impl.Store{Ints: []int64{}, Flags: []bool{}, Arrs: [][]int64{}}, ""},
		{"var x\n", impl.Store{Ints: []int64{0}}, "x 0"}, {"var x none\n", impl.Store{Ints: []int64{low, top}}, "x -9223372036854775808 none 9223372036854775807"}, {"var x y z v w\n", impl.Store{Ints: []int64{1, -1, 10, 0, 99}}, "x 1 y -1 z 10 v 0 w 99"},
		{"flag b\n", impl.Store{Flags: []bool{true}}, "b true"}, {"flag b\n", impl.Store{Flags: []bool{false}}, "b false"}, {"flag b c f\n", impl.Store{Flags: []bool{false, true, false}}, "b false c true f false"},
		{"array a 1\n", impl.Store{Arrs: [][]int64{{-5}}}, "a -5"}, {"array a 16\n", impl.Store{Arrs: [][]int64{counted(16)}}, "a " + sixteen}, {"array a 16 c 1\n", impl.Store{Arrs: [][]int64{counted(16), {7}}}, "a " + sixteen + " c 7"}, {"array a 2 c 16\n", impl.Store{Arrs: [][]int64{{top, low}, counted(16)}}, "a 9223372036854775807 -9223372036854775808 c " + sixteen},
		{"var x\nflag b\n", impl.Store{Ints: []int64{3}, Flags: []bool{true}}, "x 3 b true"}, {"flag b\narray a 2\n", impl.Store{Flags: []bool{true}, Arrs: [][]int64{{1, 2}}}, "b true a 1 2"}, {"var x\narray a 2\n", impl.Store{Ints: []int64{3}, Arrs: [][]int64{{1, 2}}}, "x 3 a 1 2"}, {"var x y\nflag b c\narray a 2 e 1\n", impl.Store{Ints: []int64{3, 4}, Flags: []bool{true, false}, Arrs: [][]int64{{1, 2}, {5}}}, "x 3 y 4 b true c false a 1 2 e 5"},
		{"", impl.Store{Ints: []int64{1}}, ""}, {"var x\n", impl.Store{}, ""}, {"var x\n", impl.Store{Ints: []int64{1, 2}}, ""}, {"flag b\n", impl.Store{Ints: []int64{1}}, ""}, {"array a 2\n", impl.Store{Arrs: [][]int64{{1}}}, ""}, {"array a 2\n", impl.Store{Arrs: [][]int64{{1, 2, 3}}}, ""}, {"array a 2\n", impl.Store{Arrs: [][]int64{{1, 2}, nil}}, ""},
	} {
		d := progOf(t, r.head).D
		if s := impl.StoreText(d, r.s); s != r.want {
			t.Errorf("%q: %q, not %q", r.head, s, r.want)
		}
	}
	for i, s := range wrongStores() {
		if text := impl.StoreText(wideDecl(), s); text != "" {
			t.Error(i, text)
		}
	}
	book, stores := textBook{}, 0
	for _, s := range storesOfFlags(3) {
		text := impl.StoreText(flagDecl(3), s)
		if text != plainStoreText(flagDecl(3), s) {
			t.Fatal(s, text)
		}
		book.put(t, text, fmt.Sprint(s))
		stores++
	}
	if len(book) != stores {
		t.Error(len(book), stores)
	}
	r := rand.New(rand.NewSource(133))
	wide := textBook{}
	for range 3000 {
		s := storeIn(r, someBounds(r), r.Int63n(8))
		text := impl.StoreText(wideDecl(), s)
		if text != plainStoreText(wideDecl(), s) {
			t.Fatal(s, text)
		}
		wide.put(t, text, fmt.Sprint(s))
	}
}

var alarmKinds = map[int64]string{1: "div", 2: "bounds", 4: "over", 8: "assert"}

// Promise 13: an alarm comes back from its text.
func TestAlarmsComeBackFromTheirTexts(t *testing.T) {
	numbers := []int64{low, low + 1, -1 << 32, 1<<32 + 1, 1 << 62, top}
	for n := int64(-20); n <= 300; n++ {
		numbers = append(numbers, n)
	}
	book := textBook{}
	for _, line := range numbers {
		for _, kind := range numbers {
			a := impl.Alarm{Line: line, Kind: kind}
			want := ""
			if word, there := alarmKinds[kind]; there && line >= 0 && line <= 29 {
				want = fmt.Sprint(line, " ", word)
			}
			s := impl.AlarmText(a)
			if s != want {
				t.Fatal(a, s)
			}
			back, ok := impl.ReadAlarm(s)
			if ok != (want != "") || ok && back != a || !ok && back != (impl.Alarm{}) {
				t.Fatal("does not come back", a, s, back)
			}
			if ok {
				book.put(t, s, fmt.Sprint(a))
			}
		}
	}
	if len(book) != 30*4 {
		t.Error(len(book))
	}
}

var alarmText = regexp.MustCompile(`^([0-9]|[12][0-9]) (div|bounds|over|assert)\z`)

func checkReadAlarm(t *testing.T, s string) bool {
	t.Helper()
	a, ok := impl.ReadAlarm(s)
	if ok != alarmText.MatchString(s) || !ok && a != (impl.Alarm{}) {
		t.Fatalf("%q: %v %v", s, a, ok)
	}
	if ok && fmt.Sprint(a.Line, " ", alarmKinds[a.Kind]) != s {
		t.Fatalf("%q: %v", s, a)
	}
	return ok
}

func TestTextsOfAlarmsAndOthers(t *testing.T) {
	for _, r := range []struct {
		s    string
		want bool
	}{
		{"0 div", true}, {"9 over", true}, {"10 bounds", true}, {"29 assert", true},
		{"", false}, {" ", false}, {"  ", false}, {"3", false}, {"3 ", false}, {"div", false}, {" div", false}, {"div 3", false}, {"3div", false}, {"3 fly", false}, {"3 di", false}, {"3 divs", false}, {"3 bound", false}, {"3 asser", false}, {"3 asserted", false}, {"3 v", false},
		{"30 div", false}, {"31 div", false}, {"-1 div", false}, {"-0 div", false}, {"+3 div", false}, {"03 div", false}, {"00 div", false}, {"x div", false}, {"3. div", false}, {"3.0 div", false}, {"3e0 div", false}, {"0x3 div", false}, {"1_0 div", false}, {"3- div", false}, {"² div", false}, {"٣ div", false},
		{"3  div", false}, {" 3 div", false}, {"3 div ", false}, {"3 div div", false}, {"3 div over", false}, {"3 3 div", false}, {"3 4", false}, {"3 1", false}, {"3\tdiv", false}, {"3 div\n", false}, {"\n3 div", false}, {"3 div\x00", false}, {"3\u00a0div", false}, {"3:div", false},
		{"3 DIV", false}, {"3 Div", false}, {"3 dIv", false}, {"3 Bounds", false}, {"3 OVER", false}, {"3 assErt", false},
		{"0000000000000003 div", false}, {"9223372036854775807 div", false}, {"9223372036854775808 div", false}, {"18446744073709551616 div", false}, {"18446744073709551619 div", false}, {"4294967299 div", false}, {"1111111111111111 div", false}, {"11111111111111111 div", false}, {"99999999999999999999999999 div", false}, {"-9223372036854775808 div", false},
		{strings.Repeat(" ", 50000), false}, {strings.Repeat("3 div ", 10000), false}, {strings.Repeat("3", 50000) + " div", false}, {"3 " + strings.Repeat("div", 20000), false},
	} {
		if checkReadAlarm(t, r.s) != r.want {
			t.Errorf("%q", r.s)
		}
	}
	eachText("013 div", 6, func(s string) { checkReadAlarm(t, s) })
	for _, word := range []string{"div", "bounds", "over", "assert"} {
		eachText("0239 -+", 4, func(s string) {
			checkReadAlarm(t, s+word)
			checkReadAlarm(t, s+" "+word)
			checkReadAlarm(t, "1"+s+word+s)
		})
		for line := range 35 {
			s := []byte(fmt.Sprint(line, " ", word))
			checkReadAlarm(t, string(s))
			// Each byte changed, left out, and put in.
			for at := range s {
				checkReadAlarm(t, string(slices.Delete(slices.Clone(s), at, at+1)))
				for c := range 256 {
					other := slices.Clone(s)
					other[at] = byte(c)
					checkReadAlarm(t, string(other))
					checkReadAlarm(t, string(slices.Insert(slices.Clone(s), at, byte(c))))
					checkReadAlarm(t, string(append(slices.Clone(s), byte(c))))
				}
			}
		}
	}
}

func TestTextsOfRows(t *testing.T) {
	d := impl.Decl{Vars: []string{"x"}, Flags: []string{"b"}}
	for _, r := range [][2]string{
		{"- {0 .}", "- b([none] | [x 0..0])"}, {"- {1..3 1..3}", "- [x 1..3]"}, {"0:0 {. -7..9}", "0:0 b([x -7..9] | [none])"},
		{"- {1 1} / 2:1 {0 .}", "- [x 1..1] / 2:1 b([none] | [x 0..0])"}, {"29:4 {1 1} / 1:0 2:3 {2 2} / 10:1 10:1 10:1 {3 4}", "29:4 [x 1..1] / 1:0 2:3 [x 2..2] / 10:1 10:1 10:1 b([x 4..4] | [x 3..3])"},
		{"9:0 {1 1} / 10:0 {1 1}", "9:0 [x 1..1] / 10:0 [x 1..1]"},
	} {
		if s := impl.RowText(d, partsIn(t, d, r[0])); s != r[1] {
			t.Errorf("%s: %q, not %q", r[0], s, r[1])
		}
	}
	for flags := range 4 {
		d := flagDecl(flags)
		for _, l := range [][]impl.Part{nil, {}} {
			if s := impl.RowText(d, l); s != "none" {
				t.Error(s)
			}
		}
		for i, l := range wrongParts(flags) {
			if s := impl.RowText(d, l); s != "" {
				t.Error(flags, i, s)
			}
		}
		for _, many := range []int{1, 2, 99, 100} {
			l := partsBy(tokensBy(many), liveTable(flags))
			if s := impl.RowText(d, l); s != plainRowText(d, l) || strings.Count(s, " / ") != many-1 {
				t.Error(flags, many, s)
			}
		}
	}
	if s := impl.RowText(impl.Decl{}, []impl.Part{{Table: []impl.Env{{Live: true}}}, {Token: entries(3, 3), Table: []impl.Env{{Live: true}}}}); s != "- [all] / 3:3 [all]" {
		t.Error(s)
	}
	r := rand.New(rand.NewSource(134))
	for flags := range 4 {
		d, book := flagDecl(flags), textBook{}
		for range 1000 {
			l := someParts(r, flags, fewRisen())
			s := impl.RowText(d, l)
			if s != plainRowText(d, l) {
				t.Fatal(l, s)
			}
			book.put(t, s, showParts(l))
		}
	}
	// Rows of analyses, of programs with other names.
	for range 60 {
		p := progOf(t, loopySource(r))
		for _, row := range impl.AnalyzeProg(p, settle(1, 1)).Rows {
			if s := impl.RowText(p.D, row.Parts); s != plainRowText(p.D, row.Parts) {
				t.Fatal(s)
			}
		}
	}
}

func TestTextsOfWrongDeclarations(t *testing.T) {
	for _, d := range wrongDecls() {
		e := impl.Env{Live: true, Ints: make([]impl.Interval, len(d.Vars)), Arrs: make([]impl.Interval, len(d.Arrays))}
		s := impl.Store{Ints: make([]int64, len(d.Vars)), Flags: make([]bool, len(d.Flags))}
		for _, a := range d.Arrays {
			s.Arrs = append(s.Arrs, make([]int64, a.Size))
		}
		table := slices.Repeat([]impl.Env{e}, 1<<len(d.Flags))
		for _, text := range []string{
			impl.EnvText(d, e), impl.EnvText(d, impl.Env{}), impl.StoreText(d, s), impl.StoreText(d, impl.Store{}),
			impl.TreeText(d, impl.Tree{Nodes: []impl.Node{{Flag: -1, E: e}}}), impl.TreeText(d, impl.Tree{Nodes: []impl.Node{{Flag: -1}}}), impl.TreeText(d, impl.Tree{}),
			impl.RowText(d, []impl.Part{{Table: table}}), impl.RowText(d, nil),
		} {
			if text != "" {
				t.Error(d, text)
			}
		}
	}
}

// Promise 15, of this chapter.
func TestTextsLeaveAllAsItIs(t *testing.T) {
	r := rand.New(rand.NewSource(135))
	for range 100 {
		flags := r.Intn(4)
		d := withRoom(flagDecl(flags))
		l := withRoom(someParts(r, flags, fewRisen()))
		checkNew(t, func() string { return impl.RowText(d, l) }, d, l)
		tree := withRoom(impl.TreeOf(d, someTable(r, flags, 1+r.Intn(6))))
		checkNew(t, func() string { return impl.TreeText(d, tree) }, d, tree)
		wide, e := withRoom(wideDecl()), withRoom(someBounds(r))
		checkNew(t, func() string { return impl.EnvText(wide, e) }, wide, e)
		s := withRoom(storeIn(r, someBounds(r), r.Int63n(8)))
		checkNew(t, func() string { return impl.StoreText(wide, s) }, wide, s)
		a := impl.Alarm{Line: r.Int63n(32) - 1, Kind: r.Int63n(10)}
		checkNew(t, func() string { return impl.AlarmText(a) })
		checkNew(t, func() impl.Alarm { b, _ := impl.ReadAlarm(impl.AlarmText(a)); return b })
	}
	for _, wrong := range wrongParts(2) {
		wrong := withRoom(wrong)
		checkNew(t, func() string { return impl.RowText(flagDecl(2), wrong) }, wrong)
	}
}
