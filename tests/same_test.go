package tests

import (
	"go/ast"
	"go/parser"
	"go/token"
	"maps"
	"math/rand"
	"path/filepath"
	"reflect"
	"slices"
	"strings"
	"testing"

	"loop.example/g00719/impl"
)

// allFunctions are those of all chapters, by name.
func allFunctions() map[string]any {
	return map[string]any{
		"NumAdd": impl.NumAdd, "NumSub": impl.NumSub, "NumMul": impl.NumMul, "NumQuo": impl.NumQuo, "NumRem": impl.NumRem,
		"IvOk": impl.IvOk, "IvHas": impl.IvHas, "IvLeq": impl.IvLeq, "IvJoin": impl.IvJoin, "IvMeet": impl.IvMeet, "IvWiden": impl.IvWiden, "IvAdd": impl.IvAdd, "IvSub": impl.IvSub, "IvMul": impl.IvMul, "IvQuo": impl.IvQuo, "IvRem": impl.IvRem, "IvNeg": impl.IvNeg,
		"DeclOk": impl.DeclOk, "ExprOk": impl.ExprOk, "ExprText": impl.ExprText, "ParseExpr": impl.ParseExpr,
		"ProgOk": impl.ProgOk, "Targets": impl.Targets, "ProgText": impl.ProgText, "ParseProg": impl.ParseProg,
		"StoreOk": impl.StoreOk, "StoreNew": impl.StoreNew, "Eval": impl.Eval, "Run": impl.Run,
		"EnvOk": impl.EnvOk, "EnvHas": impl.EnvHas, "EnvLeq": impl.EnvLeq, "EnvJoin": impl.EnvJoin, "EnvMeet": impl.EnvMeet, "EnvWiden": impl.EnvWiden,
		"IvCompare": impl.IvCompare, "IvRefine": impl.IvRefine, "ValOf": impl.ValOf, "Guard": impl.Guard, "EnvSet": impl.EnvSet, "EnvPut": impl.EnvPut,
		"TableOk": impl.TableOk, "TableHas": impl.TableHas, "TableLeq": impl.TableLeq, "TableJoin": impl.TableJoin, "TableWiden": impl.TableWiden, "TreeOf": impl.TreeOf, "TreeOk": impl.TreeOk, "TableOf": impl.TableOf, "Leaves": impl.Leaves,
		"TokenOk": impl.TokenOk, "TokenLess": impl.TokenLess, "TokenWith": impl.TokenWith, "TokenText": impl.TokenText, "ReadToken": impl.ReadToken, "PartsOk": impl.PartsOk, "PartsHas": impl.PartsHas, "PartsLeq": impl.PartsLeq, "PartsJoin": impl.PartsJoin, "PartsWiden": impl.PartsWiden, "PartsMerged": impl.PartsMerged,
		"Trace": impl.Trace, "Start": impl.Start, "Flow": impl.Flow,
		"StepsOf": impl.StepsOf, "AnalyzeProg": impl.AnalyzeProg, "Analyze": impl.Analyze,
		"Certified": impl.Certified, "Covers": impl.Covers, "AlarmsOf": impl.AlarmsOf,
		"EnvText": impl.EnvText, "TreeText": impl.TreeText, "StoreText": impl.StoreText, "AlarmText": impl.AlarmText, "ReadAlarm": impl.ReadAlarm, "RowText": impl.RowText,
		"RunScript": impl.RunScript,
	}
}

// things are what arguments are taken from, by type.
type things map[reflect.Type][]reflect.Value

func (k things) put(values ...any) {
	for _, v := range values {
		k[reflect.TypeOf(v)] = append(k[reflect.TypeOf(v)], reflect.ValueOf(v))
	}
}

// thingsOf are mostly right ones, of one program, so that most calls that are made of them do not refuse.
func thingsOf(t *testing.T, r *rand.Rand) things {
	t.Helper()
	p := someLoopyProg(t, r)
	if r.Intn(3) == 0 {
		p = likelyProg(r)
	}
	out := impl.AnalyzeProg(p, settle(r.Int63n(3), r.Int63n(3)))
	if out.Code != impl.AnOk {
		return thingsOf(t, r)
	}
	k := things{}
	other := wrongProgs(t)[r.Intn(20)]
	k.put(p, p, p, p, p, p, other, impl.Prog{}, p.D, p.D, p.D, p.D, p.D, p.D, p.D, p.D, other.D, impl.Decl{})
	k.put(int64(0), int64(0), int64(0), int64(0), int64(1), int64(1), int64(1), int64(2), int64(3), int64(4), int64(13), int64(16), int64(18), int64(40), int64(-1), low, top, true, false)
	k.put(impl.Interval{Lo: 1}, iv(low, top), impl.Env{}, impl.Tree{}, []impl.Entry(nil), []impl.Env(nil), []impl.Part(nil), []impl.Row(nil), []impl.Tok(nil))
	k.put(impl.Alarm{Line: 3, Kind: impl.AlOver}, impl.Alarm{Line: 30, Kind: 1}, impl.Config{Delay: 1, Narrow: 1, Passes: 40}, settle(0, 0), settle(2, 2), impl.Config{})
	k.put(impl.StepsOf(p), impl.StepsOf(p), someInputs(r), someInputs(r), []int64(nil), make([]int64, 101))
	k.put(impl.ProgText(p), impl.ProgText(p), impl.ProgText(p)+".\nanalyze 0 0 40\nat 1\nalarms\ncertified\nprint\nrun 40 1\ntrace 40 1\n", ".\nprint\n", "", "what", "x", "- x + y", "x / y < 3", "3:1", "-", "3 div", "29 assert")
	for _, l := range p.Lines {
		k.put(l.E, l.E, l.I)
		if impl.ExprOk(p.D, l.E) == impl.KdTruth {
			k.put(l.E, l.E, l.E)
		}
		if len(l.E) > 0 {
			k.put(impl.ExprText(p.D, l.E))
		}
	}
	for _, a := range out.Alarms {
		k.put(a, impl.AlarmText(a))
	}
	for _, row := range out.Rows {
		k.put(row.Parts)
		for _, part := range row.Parts {
			k.put(part.Token, part.Table, part.Table, impl.TreeOf(p.D, part.Table), impl.TokenText(part.Token))
			for _, e := range part.Table {
				if e.Live {
					k.put(e)
				}
				for _, a := range e.Ints {
					k.put(a)
				}
			}
		}
	}
	k.put(out.Rows, out.Rows, out.Rows, out.Rows, out.Rows[:1])
	for _, s := range impl.Trace(p, someInputs(r), 30) {
		k.put(s, s.Store)
	}
	k.put(impl.Snap{Line: -1}, impl.Store{})
	return k
}

// some are arguments with room behind each list; now and then two of one type are the same thing.
func (k things) some(t *testing.T, r *rand.Rand, f reflect.Type) []reflect.Value {
	t.Helper()
	var args []reflect.Value
	for i := range f.NumIn() {
		of := k[f.In(i)]
		if len(of) == 0 {
			t.Fatal("nothing of", f.In(i))
		}
		arg := reflect.ValueOf(withRoom(of[r.Intn(len(of))].Interface()))
		if i > 0 && f.In(i) == f.In(i-1) && r.Intn(4) == 0 {
			arg = args[i-1]
		}
		args = append(args, arg)
	}
	return args
}

func inside(l []reflect.Value) []any {
	var out []any
	for _, v := range l {
		out = append(out, v.Interface())
	}
	return out
}

func imagesOf(l []any) []string {
	var out []string
	for _, v := range l {
		out = append(out, image(v))
	}
	return out
}

// tight are the same arguments elsewhere, without room.
func tight(l []reflect.Value) []reflect.Value {
	var copied func(v reflect.Value) reflect.Value
	copied = func(v reflect.Value) reflect.Value {
		out := reflect.New(v.Type()).Elem()
		switch v.Kind() {
		case reflect.Slice:
			if v.Len() > 0 {
				out = reflect.MakeSlice(v.Type(), v.Len(), v.Len())
			}
			for i := range v.Len() {
				out.Index(i).Set(copied(v.Index(i)))
			}
		case reflect.Struct:
			for i := range v.NumField() {
				out.Field(i).Set(copied(v.Field(i)))
			}
		default:
			out = v
		}
		return out
	}
	var out []reflect.Value
	for _, v := range l {
		out = append(out, copied(v))
	}
	return out
}

// checkSame asks f twice of the same arguments, and once of ones like these; between, another one is asked. It tells whether an answer is not the zero value.
func checkSame(t *testing.T, name string, f reflect.Value, args []reflect.Value, between func()) bool {
	t.Helper()
	given := inside(args)
	before := imagesOf(given)
	first := f.Call(args)
	between()
	second := inside(f.Call(args))
	third := inside(f.Call(tight(args)))
	some := false
	for _, v := range first {
		checkApart(t, v.Interface(), append(slices.Clone(given), second...)...)
		some = some || !v.IsZero()
	}
	if !reflect.DeepEqual(inside(first), second) || !reflect.DeepEqual(second, third) {
		t.Fatalf("%s%v: %v, then %v and %v", name, given, inside(first), second, third)
	}
	if after := imagesOf(given); !slices.Equal(after, before) {
		t.Fatalf("%s: written into an argument: %v, not %v", name, after, before)
	}
	return some
}

// Promise 15, of every function of every chapter.
func TestTheSameArgumentsGiveTheSameAnswers(t *testing.T) {
	r := rand.New(rand.NewSource(150))
	functions := allFunctions()
	names := slices.Sorted(maps.Keys(functions))
	told := map[string]int{}
	for range 80 {
		k := thingsOf(t, r)
		other := thingsOf(t, r)
		for _, name := range names {
			f := reflect.ValueOf(functions[name])
			for range 6 {
				between := func() {
					g := reflect.ValueOf(functions[names[r.Intn(len(names))]])
					g.Call(other.some(t, r, g.Type()))
				}
				if checkSame(t, name, f, k.some(t, r, f.Type()), between) {
					told[name]++
				}
			}
		}
	}
	for _, name := range names {
		if told[name] < 20 {
			t.Error(name, "told something", told[name], "times only")
		}
	}
}

// A function that is not among those above would not be asked.
func TestAllFunctionsAreAsked(t *testing.T) {
	files, err := filepath.Glob("../impl/*.go")
	if err != nil || len(files) != 14 {
		t.Fatal(files, err)
	}
	functions := allFunctions()
	for _, file := range files {
		f, err := parser.ParseFile(token.NewFileSet(), file, nil, 0)
		if err != nil {
			t.Fatal(err)
		}
		for _, d := range f.Decls {
			x, ok := d.(*ast.FuncDecl)
			if !ok || x.Recv != nil || !x.Name.IsExported() {
				continue
			}
			if functions[x.Name.Name] == nil {
				t.Error("not asked:", x.Name.Name)
			}
			delete(functions, x.Name.Name)
		}
	}
	if len(functions) > 0 {
		t.Error(strings.Join(slices.Sorted(maps.Keys(functions)), " "))
	}
}
