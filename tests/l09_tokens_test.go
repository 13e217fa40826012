package tests

import (
	"fmt"
	"math/rand"
	"regexp"
	"slices"
	"strings"
	"testing"

	"loop.example/g00719/impl"
)

// entries are lines and picks by turns.
func entries(l ...int64) []impl.Entry {
	var t []impl.Entry
	for i := 0; i+1 < len(l); i += 2 {
		t = append(t, impl.Entry{Line: l[i], Pick: l[i+1]})
	}
	return t
}

func samePart(a, b impl.Part) bool {
	return slices.Equal(a.Token, b.Token) && sameTable(a.Table, b.Table)
}

func sameParts(a, b []impl.Part) bool { return slices.EqualFunc(a, b, samePart) }

// plainOrder is greater for a token that is greater, as a text.
func plainOrder(t []impl.Entry) string {
	text := fmt.Sprint(len(t))
	for _, e := range t {
		text += fmt.Sprintf(" %02d %d", e.Line, e.Pick)
	}
	return text
}

func plainTokenText(t []impl.Entry) string {
	if len(t) == 0 {
		return "-"
	}
	text := ""
	for _, e := range t {
		text += fmt.Sprintf(" %d:%d", e.Line, e.Pick)
	}
	return text[1:]
}

// fewTokens are all that have these entries only.
func fewTokens(from []impl.Entry) [][]impl.Entry {
	l := [][]impl.Entry{nil}
	for at, many := 0, 0; many < 3; many++ {
		end := len(l)
		for ; at < end; at++ {
			for _, e := range from {
				l = append(l, append(slices.Clone(l[at]), e))
			}
		}
	}
	return l
}

func wrongTokens() [][]impl.Entry {
	l := [][]impl.Entry{entries(1, 1, 1, 1, 1, 1, 1, 1), make([]impl.Entry, 4), make([]impl.Entry, 1000)}
	for _, wrong := range [][]impl.Entry{entries(-1, 0), entries(30, 0), entries(0, -1), entries(0, 5), entries(low, top), entries(1<<32, 0), entries(0, 1<<32), entries(256, 0)} {
		l = append(l, wrong, append(entries(3, 3), wrong...), append(wrong, entries(3, 3, 4, 4)...), append(entries(3, 3, 4, 4), wrong...))
	}
	return l
}

func checkToken(t *testing.T, token []impl.Entry) {
	t.Helper()
	text := impl.TokenText(token)
	if !impl.TokenOk(token) || text != plainTokenText(token) {
		t.Fatal(token, text)
	}
	if back, ok := impl.ReadToken(text); !ok || !slices.Equal(back, token) {
		t.Fatal("does not come back", token, text, back)
	}
}

// Promise 9.
func TestTokensComeBackFromTheirTexts(t *testing.T) {
	for _, token := range fewTokens(entries(0, 0, 0, 4, 1, 1, 9, 2, 10, 3, 28, 0, 29, 0, 29, 4)) {
		checkToken(t, token)
	}
	for line := range int64(30) {
		for pick := range int64(5) {
			checkToken(t, entries(line, pick))
			checkToken(t, entries(29-line, 4-pick, line, pick))
			checkToken(t, entries(7, 1, line, pick, 3, 0))
		}
	}
	checkToken(t, []impl.Entry{})
	for _, token := range wrongTokens() {
		if s := impl.TokenText(token); s != "" || impl.TokenOk(token) {
			t.Error(token, s)
		}
	}
}

var tokenText = regexp.MustCompile(`^(-|(0|[1-9]|[12][0-9]):[0-4]( (0|[1-9]|[12][0-9]):[0-4]){0,2})$`)

func checkReadToken(t *testing.T, s string) {
	t.Helper()
	token, ok := impl.ReadToken(s)
	if ok != tokenText.MatchString(s) || ok && plainTokenText(token) != s || !ok && len(token) > 0 {
		t.Fatalf("%q: %v %v", s, token, ok)
	}
}

func TestTextsOfTokensAndOthers(t *testing.T) {
	eachText("01 :-", 8, func(s string) { checkReadToken(t, s) })
	eachText("239: 5", 6, func(s string) { checkReadToken(t, s) })
	for _, s := range []string{"", "-", "--", "- ", " -", "-0:0", "+1:1", "1:+1", "1:-0", "-1:0", "0:-1", "01:1", "1:01", "00:0", "29:4", "30:0", "29:5", "0:10", "1", "1:", ":1", ":", "1::1", "1:1:1", "1:1:", ":1:1", "1 :1", "1: 1", "1:1 ", " 1:1", "1:1  2:2", "1:1 2:2 3:3", "1:1 2:2 3:3 4:4", "1:1 2:2 3:3 ", "1:1 2:2 3:3 -", "1:1 -", "- 1:1", "1:1\t2:2", "1:1\n", "1:1\n2:2", "\n", "\x00", "1:1\x00", "1_0:0", "0x1:1", "1e0:1", "1.0:1", "²:1", "1,1", "1;1", "a:b",
		"0000000000000001:1", "00000000000000001:1", "1:00000000000000001", "1111111111111111:1", "11111111111111111:1", "1:11111111111111111", "9223372036854775807:0", "9223372036854775808:0", "18446744073709551617:0", "18446744073709551616:0", "4294967296:0", "4294967297:1", "256:0", "99999999999999999999999999:1", "1:4294967297",
		strings.Repeat("1:1 ", 5000), strings.Repeat("1", 50000), strings.Repeat(":", 50000), strings.Repeat(" ", 50000), "1:1" + strings.Repeat(" ", 50000)} {
		checkReadToken(t, s)
	}
	r := rand.New(rand.NewSource(9))
	for range 20000 {
		s := []byte(plainTokenText(entries(r.Int63n(32), r.Int63n(6), r.Int63n(32), r.Int63n(6), r.Int63n(32), r.Int63n(6))[:r.Intn(4)]))
		checkReadToken(t, string(s))
		s[r.Intn(len(s))] = "0123459:- +\n"[r.Intn(12)]
		checkReadToken(t, string(s))
	}
}

func TestOrderOfTokens(t *testing.T) {
	l := fewTokens(entries(0, 0, 0, 1, 1, 0, 2, 4, 10, 0))
	for _, a := range l {
		for _, b := range l {
			if impl.TokenLess(a, b) != (plainOrder(a) < plainOrder(b)) {
				t.Fatal(a, b)
			}
		}
		for _, wrong := range wrongTokens() {
			if impl.TokenLess(a, wrong) || impl.TokenLess(wrong, a) {
				t.Fatal(a, wrong)
			}
		}
	}
	for _, a := range wrongTokens() {
		for _, b := range wrongTokens() {
			if impl.TokenLess(a, b) {
				t.Fatal(a, b)
			}
		}
	}
}

func TestTokensWithOneMore(t *testing.T) {
	numbers := []int64{low, -1, 0, 1, 4, 5, 29, 30, top}
	for _, token := range append(fewTokens(entries(0, 0, 5, 1, 29, 4)), wrongTokens()...) {
		for _, line := range numbers {
			for _, pick := range numbers {
				want := append(slices.Clone(token), impl.Entry{Line: line, Pick: pick})
				if len(token) == 3 {
					want = token
				}
				if slices.ContainsFunc(want, func(e impl.Entry) bool { return e.Line < 0 || e.Line > 29 || e.Pick < 0 || e.Pick > 4 }) || len(want) > 3 {
					want = nil
				}
				if u := impl.TokenWith(token, line, pick); !slices.Equal(u, want) {
					t.Fatal(token, line, pick, u)
				}
			}
		}
	}
}

// tokensBy are so many tokens, rising.
func tokensBy(many int) [][]impl.Entry {
	l := [][]impl.Entry{nil}
	for line := int64(0); len(l) < many; line++ {
		for pick := range int64(5) {
			l = append(l, entries(line, pick))
		}
	}
	return l[:many]
}

// partsBy has one Part for each token, all with a table like this.
func partsBy(tokens [][]impl.Entry, table []impl.Env) []impl.Part {
	var l []impl.Part
	for _, token := range tokens {
		l = append(l, impl.Part{Token: slices.Clone(token), Table: copyTable(table)})
	}
	return l
}

// someParts are right ones of flagDecl(flags); their tokens are some of these, which rise.
func someParts(r *rand.Rand, flags int, tokens [][]impl.Entry) []impl.Part {
	var l []impl.Part
	for _, token := range tokens {
		table := someTable(r, flags, 1+r.Intn(6))
		if r.Intn(2) == 0 && slices.ContainsFunc(table, func(e impl.Env) bool { return e.Live }) {
			l = append(l, impl.Part{Token: slices.Clone(token), Table: table})
		}
	}
	return l
}

// fewRisen are some tokens of each length, rising.
func fewRisen() [][]impl.Entry {
	return [][]impl.Entry{nil, entries(0, 0), entries(0, 1), entries(2, 0), entries(0, 0, 0, 0), entries(0, 1, 2, 3), entries(2, 3, 0, 1), entries(0, 0, 0, 0, 0, 0), entries(29, 4, 29, 4, 29, 4)}
}

func liveTable(flags int) []impl.Env {
	return slices.Repeat([]impl.Env{smallEnv(iv(0, 3), iv(0, 3))}, 1<<flags)
}

// wrongParts are not right for flagDecl(flags).
func wrongParts(flags int) [][]impl.Part {
	table := liveTable(flags)
	one := impl.Part{Token: entries(1, 1), Table: table}
	first, last := impl.Part{Table: table}, impl.Part{Token: entries(2, 0, 0, 0), Table: table}
	l := [][]impl.Part{
		{one, one}, {first, first}, {one, first}, {last, one}, {first, last, one}, {first, one, one, last},
		{{Token: entries(1, 2), Table: table}, one}, {{Token: entries(2, 1), Table: table}, one}, {last, {Token: entries(1, 4, 4, 4), Table: table}},
		partsBy(tokensBy(101), table), partsBy(append(tokensBy(99), entries(4, 4, 4, 4), entries(4, 4, 4, 4, 4, 4)), table), make([]impl.Part, 101),
	}
	var wrong []impl.Part
	for _, token := range wrongTokens() {
		wrong = append(wrong, impl.Part{Token: token, Table: table})
	}
	for _, table := range append(wrongTables(flags), make([]impl.Env, 1<<flags)) {
		wrong = append(wrong, impl.Part{Token: entries(1, 1), Table: table})
	}
	for _, p := range wrong {
		l = append(l, []impl.Part{p}, []impl.Part{first, p}, []impl.Part{p, last}, []impl.Part{first, p, last})
	}
	return l
}

func TestRightParts(t *testing.T) {
	r := rand.New(rand.NewSource(90))
	for flags := range 4 {
		d := flagDecl(flags)
		table := liveTable(flags)
		for _, l := range [][]impl.Part{nil, {}, partsBy(tokensBy(1), table), partsBy(tokensBy(100), table), partsBy(fewRisen(), table)} {
			if !impl.PartsOk(d, l) {
				t.Error(flags, len(l))
			}
		}
		// One leaf that is Live will do, whichever it is.
		for leaf := range 1 << flags {
			few := make([]impl.Env, 1<<flags)
			few[leaf] = smallEnv(iv(low, top), iv(0, 0))
			if !impl.PartsOk(d, []impl.Part{{Table: table}, {Token: entries(0, 0), Table: few}}) {
				t.Error(flags, leaf)
			}
		}
		for i, l := range wrongParts(flags) {
			if impl.PartsOk(d, l) {
				t.Error(flags, i, l)
			}
		}
		for range 300 {
			if l := someParts(r, flags, fewRisen()); !impl.PartsOk(d, l) {
				t.Fatal(l)
			}
		}
		all := partsBy(tokensBy(100), table)
		for i := range all {
			for _, token := range [][]impl.Entry{all[max(i-1, 0)].Token, entries(30, 0)} {
				l := slices.Clone(all)
				l[i].Token = token
				if want := i == 0 && len(token) == 0; impl.PartsOk(d, l) != want {
					t.Fatal(i, token)
				}
			}
			l := slices.Clone(all)
			l[i].Table = make([]impl.Env, 1<<flags)
			if impl.PartsOk(d, l) {
				t.Fatal(i)
			}
		}
	}
	if !impl.PartsOk(impl.Decl{}, []impl.Part{{Table: []impl.Env{{Live: true}}}}) || impl.PartsOk(impl.Decl{}, []impl.Part{{Table: []impl.Env{{}}}}) {
		t.Error("without names")
	}
}

// tableIn is the one of this token in l, where there is one.
func tableIn(l []impl.Part, token []impl.Entry) []impl.Env {
	for _, p := range l {
		if slices.Equal(p.Token, token) {
			return p.Table
		}
	}
	return nil
}

// plainBoth takes each of the tokens, which rise, in turn.
func plainBoth(tokens [][]impl.Entry, a, b []impl.Part, both func(x, y []impl.Env) []impl.Env) []impl.Part {
	var l []impl.Part
	for _, token := range tokens {
		x, y := tableIn(a, token), tableIn(b, token)
		switch {
		case x != nil && y != nil:
			l = append(l, impl.Part{Token: token, Table: both(x, y)})
		case x != nil:
			l = append(l, impl.Part{Token: token, Table: x})
		case y != nil:
			l = append(l, impl.Part{Token: token, Table: y})
		}
	}
	return l
}

func plainMerged(d impl.Decl, l []impl.Part) []impl.Part {
	if len(l) == 0 {
		return nil
	}
	table := make([]impl.Env, len(l[0].Table))
	for _, p := range l {
		for i, e := range p.Table {
			table[i] = impl.EnvJoin(d, table[i], e)
		}
	}
	return []impl.Part{{Table: table}}
}

func plainLeq(d impl.Decl, a, b []impl.Part) bool {
	for _, p := range a {
		if !impl.TableLeq(d, p.Table, tableIn(b, p.Token)) {
			return false
		}
	}
	return true
}

// checkParts: of right ones whose tokens are among these.
func checkParts(t *testing.T, d impl.Decl, tokens [][]impl.Entry, a, b []impl.Part, steps []int64) []impl.Part {
	t.Helper()
	join := impl.PartsJoin(d, a, b)
	if want := plainBoth(tokens, a, b, func(x, y []impl.Env) []impl.Env { return impl.TableJoin(d, x, y) }); !sameParts(join, want) {
		t.Fatal("join", a, b, join, want)
	}
	widened := impl.PartsWiden(d, a, b, steps)
	if want := plainBoth(tokens, a, b, func(x, y []impl.Env) []impl.Env { return impl.TableWiden(d, x, y, steps) }); !sameParts(widened, want) {
		t.Fatal("widened", a, b, widened, want)
	}
	if leq := impl.PartsLeq(d, a, b); leq != plainLeq(d, a, b) {
		t.Fatal("leq", a, b, leq)
	}
	for _, l := range [][]impl.Part{a, b} {
		if !impl.PartsLeq(d, l, join) || !impl.PartsLeq(d, join, widened) {
			t.Fatal("not above", l, join, widened)
		}
	}
	for _, l := range [][]impl.Part{a, join} {
		if m := impl.PartsMerged(d, l); !sameParts(m, plainMerged(d, l)) {
			t.Fatal("merged", l, m)
		}
	}
	return join
}

// storesOfFlags are few stores, each with all truths.
func storesOfFlags(flags int) []impl.Store {
	var l []impl.Store
	for _, s := range smallStores([]int64{-1, 0, 1}) {
		for leaf := range 1 << flags {
			s.Flags = nil
			for i := range flags {
				s.Flags = append(s.Flags, leaf>>i&1 == 1)
			}
			l = append(l, s)
		}
	}
	return l
}

// Promise 9.
func TestJoinedPartsHaveWhatOneHas(t *testing.T) {
	r := rand.New(rand.NewSource(91))
	in, out := 0, 0
	for range 150 {
		flags := r.Intn(4)
		d := flagDecl(flags)
		tokens := fewRisen()
		a, b := someParts(r, flags, tokens), someParts(r, flags, tokens)
		join := checkParts(t, d, tokens, a, b, []int64{1, -1, 5}[:r.Intn(4)])
		merged := impl.PartsMerged(d, join)
		for _, s := range storesOfFlags(flags) {
			for _, token := range append(tokens, entries(1, 0), entries(0, 0, 0, 0, 0, 0, 0, 0)) {
				x, y := impl.PartsHas(d, a, token, s), impl.PartsHas(d, b, token, s)
				if x != impl.TableHas(d, tableIn(a, token), s) {
					t.Fatal("has", a, token, s)
				}
				if (x || y) && (!impl.PartsHas(d, join, token, s) || !impl.PartsHas(d, merged, nil, s)) {
					t.Fatal("lost", a, b, token, s)
				}
				if x || y {
					in++
				} else {
					out++
				}
			}
		}
	}
	if in < 1000 || out < 1000 {
		t.Error(in, out)
	}
}

func TestPartsAtTheirEdges(t *testing.T) {
	tokens := tokensBy(102)
	for flags := range 4 {
		d := flagDecl(flags)
		few, more := liveTable(flags), slices.Repeat([]impl.Env{smallEnv(iv(-2, 1), iv(2, 9))}, 1<<flags)
		of := func(from, to int, table []impl.Env) []impl.Part { return partsBy(tokens[from:to], table) }
		for _, r := range [][2][]impl.Part{
			{nil, nil}, {of(0, 1, few), nil}, {nil, of(0, 1, few)}, {of(0, 1, few), of(0, 1, more)}, {of(5, 6, few), of(0, 1, more)},
			{of(0, 100, few), nil}, {nil, of(0, 100, few)}, {of(0, 100, few), of(0, 100, more)}, {of(0, 50, few), of(50, 100, more)}, {of(50, 100, few), of(0, 50, more)}, {of(0, 99, few), of(99, 100, more)}, {of(0, 60, few), of(40, 100, more)}, {of(1, 101, few), of(2, 101, more)},
		} {
			checkParts(t, d, tokens, r[0], r[1], []int64{-3, 4})
		}
		// One more than there may be; what they merge into is one.
		for _, r := range [][2][]impl.Part{{of(0, 100, few), of(100, 101, more)}, {of(0, 1, few), of(1, 101, more)}, {of(0, 51, few), of(51, 101, more)}, {of(0, 100, few), of(1, 101, few)}, {of(0, 100, more), of(2, 102, few)}} {
			if j := impl.PartsJoin(d, r[0], r[1]); len(j) != 0 {
				t.Error("join", len(j))
			}
			if w := impl.PartsWiden(d, r[0], r[1], nil); len(w) != 0 {
				t.Error("widened", len(w))
			}
			if m := impl.PartsMerged(d, r[0]); !sameParts(m, of(0, 1, r[0][0].Table)) {
				t.Error("merged", m)
			}
			if impl.PartsLeq(d, r[0], r[1]) {
				t.Error("leq")
			}
		}
		steps := make([]int64, 101)
		for i := range steps {
			steps[i] = int64(i)
		}
		for _, r := range [][2][]impl.Part{{of(0, 2, few), of(1, 3, more)}, {of(0, 1, few), nil}, {nil, of(0, 1, few)}, {nil, nil}} {
			checkParts(t, d, tokens, r[0], r[1], steps[:100])
			if w := impl.PartsWiden(d, r[0], r[1], steps); len(w) != 0 {
				t.Error("101", w)
			}
		}
		// It matters which is widened: one that is not below leaves the other as it is.
		wide := slices.Repeat([]impl.Env{smallEnv(iv(low, 3), iv(0, 100))}, 1<<flags)
		if w := impl.PartsWiden(d, of(0, 1, few), of(0, 1, more), []int64{100}); !sameParts(w, of(0, 1, wide)) {
			t.Error(w)
		}
		wide = slices.Repeat([]impl.Env{smallEnv(iv(-2, 100), iv(low, 9))}, 1<<flags)
		if w := impl.PartsWiden(d, of(0, 1, more), of(0, 1, few), []int64{100}); !sameParts(w, of(0, 1, wide)) {
			t.Error(w)
		}
	}
}

// checkNoParts: of a and b, of which one at least is not right, or of a wrong declaration.
func checkNoParts(t *testing.T, d impl.Decl, a, b []impl.Part) {
	t.Helper()
	if impl.PartsLeq(d, a, b) {
		t.Error("leq", d, a, b)
	}
	if j := impl.PartsJoin(d, a, b); len(j) != 0 {
		t.Error("join", d, a, b, j)
	}
	for _, steps := range [][]int64{nil, {1}, make([]int64, 101)} {
		if w := impl.PartsWiden(d, a, b, steps); len(w) != 0 {
			t.Error("widened", d, a, b, w)
		}
	}
}

func TestPartsOfWhatIsWrong(t *testing.T) {
	for flags := range 4 {
		d := flagDecl(flags)
		table := liveTable(flags)
		for _, wrong := range wrongParts(flags) {
			for _, other := range [][]impl.Part{nil, partsBy(tokensBy(2), table), wrong} {
				checkNoParts(t, d, wrong, other)
				checkNoParts(t, d, other, wrong)
			}
			if m := impl.PartsMerged(d, wrong); len(m) != 0 {
				t.Error("merged", wrong, m)
			}
			for _, p := range wrong {
				for _, s := range append(storesOfFlags(flags)[:4], impl.StoreNew(d)) {
					if impl.PartsHas(d, wrong, p.Token, s) || impl.PartsHas(d, wrong, nil, s) {
						t.Error("has", wrong, s)
					}
				}
			}
		}
		right := partsBy(fewRisen(), table)
		s := storesOfFlags(flags)[len(storesOfFlags(flags))-1]
		if !impl.PartsHas(d, right, entries(0, 1), s) || !impl.PartsHas(d, right, entries(29, 4, 29, 4, 29, 4), s) {
			t.Error("has not", s)
		}
		for _, token := range append(wrongTokens(), entries(0, 2), entries(1, 1), entries(0, 1, 0, 0), entries(29, 4, 29, 4, 29, 4, 29, 4), entries(0, 0, -1, 0), entries(-1, 0)) {
			if impl.PartsHas(d, right, token, s) {
				t.Error("has", token)
			}
		}
		for _, wrong := range []impl.Store{{}, {Ints: s.Ints, Flags: s.Flags}, {Ints: append([]int64{0}, s.Ints...), Flags: s.Flags, Arrs: s.Arrs}, {Ints: s.Ints, Flags: append([]bool{true}, s.Flags...), Arrs: s.Arrs}, {Ints: s.Ints, Flags: s.Flags, Arrs: [][]int64{{0}}}, {Ints: []int64{4}, Flags: s.Flags, Arrs: s.Arrs}} {
			if impl.PartsHas(d, right, nil, wrong) {
				t.Error("has", wrong)
			}
		}
		if impl.PartsOk(flagDecl((flags+1)%4), right) {
			t.Error("of another declaration")
		}
	}
}

func TestPartsOfWrongDeclarations(t *testing.T) {
	for _, d := range wrongDecls() {
		e := impl.Env{Live: true, Ints: make([]impl.Interval, len(d.Vars)), Arrs: make([]impl.Interval, len(d.Arrays))}
		s := impl.Store{Ints: make([]int64, len(d.Vars)), Flags: make([]bool, len(d.Flags))}
		for _, a := range d.Arrays {
			s.Arrs = append(s.Arrs, make([]int64, a.Size))
		}
		for _, l := range [][]impl.Part{{{Table: slices.Repeat([]impl.Env{e}, 1<<min(len(d.Flags), 4))}}, nil} {
			checkNoParts(t, d, l, l)
			if impl.PartsOk(d, l) || impl.PartsHas(d, l, nil, s) || len(impl.PartsMerged(d, l)) != 0 {
				t.Error(d, l)
			}
		}
	}
}

// Promise 15, of this chapter.
func TestTokensAndPartsShareNothing(t *testing.T) {
	for _, token := range append(fewTokens(entries(3, 3, 0, 0)), wrongTokens()...) {
		token := withRoom(token)
		checkNew(t, func() []impl.Entry { return impl.TokenWith(token, 4, 4) }, token)
		checkNew(t, func() []impl.Entry { return impl.TokenWith(token, 30, 4) }, token)
		checkNew(t, func() []bool { return []bool{impl.TokenOk(token), impl.TokenLess(token, token)} }, token)
		checkNew(t, func() string { return impl.TokenText(token) }, token)
		checkNew(t, func() []impl.Entry { l, _ := impl.ReadToken(plainTokenText(token)); return l }, token)
	}
	r := rand.New(rand.NewSource(92))
	for range 150 {
		flags := r.Intn(4)
		d := withRoom(flagDecl(flags))
		tokens := fewRisen()
		a, b, steps := withRoom(someParts(r, flags, tokens)), withRoom(someParts(r, flags, tokens)), withRoom([]int64{5, -5})
		s, token := withRoom(impl.StoreNew(d)), withRoom(tokens[r.Intn(len(tokens))])
		for _, l := range [][]impl.Part{b, a, nil} {
			checkNew(t, func() []impl.Part { return impl.PartsJoin(d, a, l) }, d, a, l)
			checkNew(t, func() []impl.Part { return impl.PartsJoin(d, l, a) }, d, a, l)
			checkNew(t, func() []impl.Part { return impl.PartsWiden(d, a, l, steps) }, d, a, l, steps)
			checkNew(t, func() []impl.Part { return impl.PartsWiden(d, l, a, steps) }, d, a, l, steps)
			checkNew(t, func() []impl.Part { return impl.PartsMerged(d, l) }, d, l)
			checkNew(t, func() []bool {
				return []bool{impl.PartsOk(d, l), impl.PartsLeq(d, a, l), impl.PartsHas(d, l, token, s)}
			}, d, a, l, token, s)
		}
	}
	table := liveTable(1)
	// Lists of one's own, though the argument's share theirs.
	l := partsBy(fewRisen(), table)
	for i := range l {
		l[i].Table = table
	}
	checkNew(t, func() []impl.Part { return impl.PartsJoin(flagDecl(1), l, l[:4]) }, l)
	checkNew(t, func() []impl.Part { return impl.PartsMerged(flagDecl(1), l[:1]) }, l)
}
