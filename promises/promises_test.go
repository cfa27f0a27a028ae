package promises

import (
	"fmt"
	"go/ast"
	"go/parser"
	"go/token"
	"maps"
	"path/filepath"
	"reflect"
	"slices"
	"strings"
	"testing"

	"spinet/api"
)

// packages: those of the layers.
func packages() []string {
	var out []string
	for name := range functions() {
		out = append(out, name[:strings.Index(name, ".")])
	}
	for name := range makers() {
		out = append(out, name[:strings.Index(name, ".")])
	}
	slices.Sort(out)
	return slices.Compact(out)
}

// exported: all functions of the layers' packages, and all types that have methods.
func exported(t *testing.T) (functions, types []string) {
	t.Helper()
	var files []string
	for _, pack := range packages() {
		l, e := filepath.Glob("../" + pack + "/*.go")
		if e != nil || len(l) == 0 {
			t.Fatal(pack, e)
		}
		files = append(files, l...)
	}
	for _, f := range files {
		pack := filepath.Base(filepath.Dir(f))
		if strings.HasSuffix(f, "_test.go") {
			continue
		}
		a, e := parser.ParseFile(token.NewFileSet(), f, nil, 0)
		if e != nil {
			t.Fatal(e)
		}
		for _, d := range a.Decls {
			x, ok := d.(*ast.FuncDecl)
			switch {
			case !ok || !x.Name.IsExported():
			case x.Recv == nil:
				functions = append(functions, pack+"."+x.Name.Name)
			default:
				if name := receiver(x.Recv.List[0].Type); ast.IsExported(name) {
					types = append(types, pack+"."+name)
				}
			}
		}
	}
	slices.Sort(functions)
	slices.Sort(types)
	return functions, slices.Compact(types)
}

// receiver: the name of the type of which a method is.
func receiver(x ast.Expr) string {
	switch y := x.(type) {
	case *ast.StarExpr:
		return receiver(y.X)
	case *ast.IndexExpr:
		return receiver(y.X)
	case *ast.Ident:
		return y.Name
	}
	return ""
}

// No call is left out here.
func TestAllCalls(t *testing.T) {
	if n := len(packages()); n != 58 {
		t.Errorf("%d layers", n)
	}
	calls, types := exported(t)
	if all := slices.Sorted(maps.Keys(functions())); !slices.Equal(all, calls) {
		t.Errorf("functions:\n%v\nnot\n%v", all, calls)
	}
	if all := slices.Sorted(maps.Keys(makers())); !slices.Equal(all, types) {
		t.Errorf("types:\n%v\nnot\n%v", all, types)
	}
}

// told: beside an error, or false, these tell something else than nothing, as their chapters say.
var told = map[string]string{
	"srec.Get": "the line", "lexer.All": "the line", "asm.Assemble": "the line", "listing.Text": "the line",
	"alu.Eight": "it isn't written", "alu.Change": "it isn't written", "alu.Word": "it isn't written",
	"index.Inst": "the registers", "flow.Next": "where it goes on, perhaps", "post.Post.Code": "any byte",
	"machine.Machine.Step": "how many cycles",
}

// fails: does an answer tell of an error, or that there is nothing?
func fails(out []reflect.Value) bool {
	if len(out) < 2 {
		return false
	}
	switch last := out[len(out)-1]; last.Type() {
	case reflect.TypeFor[api.Errno]():
		return last.Int() != 0
	case reflect.TypeFor[bool]():
		return !last.Bool()
	case reflect.TypeFor[error]():
		return !last.IsNil()
	}
	return false
}

// nothing: is a value the zero value of its type, or an empty list?
func nothing(v reflect.Value) bool {
	return v.IsZero() || v.Kind() == reflect.Slice && v.Len() == 0
}

// tried: a call's answer, or what it panicked with.
func tried(f reflect.Value, args []reflect.Value) (out []reflect.Value, panicked any) {
	defer func() { panicked = recover() }()
	return call(f, args), nil
}

// P1 and P2 of functions, and the rules 3 and 5: none panics; with an error there is nothing else; the same arguments have the same answer, whatever was answered ahead and whatever became of that; arguments stay as they are.
func TestP1P2Functions(t *testing.T) {
	for name, f := range functions() {
		t.Run(name, func(t *testing.T) {
			t.Parallel()
			for seed := range int64(150) {
				function(t, name, reflect.ValueOf(f), seed)
			}
		})
	}
}

// function: looks at one call of a function.
func function(t *testing.T, name string, f reflect.Value, seed int64) {
	t.Helper()
	args := func() []reflect.Value { return newGen(seed).args(name, f.Type(), 0) }
	before := shown(args()...)
	one := args()
	out, panicked := tried(f, one)
	if panicked != nil {
		t.Fatalf("%.300s: panics: %v", before, panicked)
	}
	want := shown(out...)
	if !zero(name, out) {
		t.Errorf("%.300s: fails, and answers %.300s", before, want)
	}
	if !changes(name) && shown(one...) != before {
		t.Errorf("%.300s: the arguments are others now", before)
	}
	spoil(out...)
	if !changes(name) && shown(one...) != before {
		t.Errorf("%.300s: what is answered is the arguments' memory", before)
	}
	if got := shown(call(f, args())...); got != want {
		t.Errorf("%.300s: %.300s, then %.300s", before, want, got)
	}
}

// zero: with an error, or false, is all else nothing?
func zero(name string, out []reflect.Value) bool {
	_, ok := told[name]
	return ok || !fails(out) || !slices.ContainsFunc(out[:len(out)-1], func(v reflect.Value) bool { return !nothing(v) })
}

// changes: may a function change the memory, or the machine, that it is given?
func changes(name string) bool {
	return name == "fast.Step" || name == "fast.Row" || name == "fast.Many"
}

// P1 and P2 of objects: calls one by one on two that were made alike, of which one's answers and arguments are spoilt, and on another one between.
func TestP1P2Objects(t *testing.T) {
	for name, maker := range makers() {
		t.Run(name, func(t *testing.T) {
			t.Parallel()
			for seed := range int64(40) {
				objects(t, name, maker, seed)
			}
		})
	}
}

// objects: looks at some calls of three objects.
func objects(t *testing.T, name string, maker func(g gen) any, seed int64) {
	t.Helper()
	one, two := reflect.ValueOf(maker(newGen(seed))), reflect.ValueOf(maker(newGen(seed)))
	other := reflect.ValueOf(maker(newGen(seed + 500)))
	pick := newGen(seed + 1000)
	var history []string
	for range 60 {
		which := pick.Intn(one.NumMethod())
		method := name + "." + one.Type().Method(which).Name
		seed := pick.Int63()
		args := func(seed int64) []reflect.Value {
			return newGen(seed).args(method, one.Method(which).Type(), 0)
		}
		history = append(history, fmt.Sprintf("%s(%.200s)", method, shown(args(seed)...)))
		given := args(seed)
		got, panicked := tried(one.Method(which), given)
		if panicked != nil {
			t.Fatalf("%v: panics: %v", history, panicked)
		}
		text := shown(got...)
		if !zero(method, got) {
			t.Errorf("%s: fails, and answers %.300s", history[len(history)-1], text)
		}
		spoil(got...)
		spoil(given...)
		call(other.Method(which), args(seed+1))
		if want := shown(call(two.Method(which), args(seed))...); text != want {
			t.Fatalf("%v: %.500s, not %.500s", history, text, want)
		}
	}
}

// P1 of texts of any length: each call that takes one ends.
func TestP1Long(t *testing.T) {
	for name, f := range functions() {
		f := reflect.ValueOf(f)
		for i := range f.Type().NumIn() {
			if f.Type().In(i).Kind() != reflect.String {
				continue
			}
			for n, s := range long() {
				args := newGen(int64(n)).args(name, f.Type(), 0)
				args[i] = reflect.ValueOf(s)
				if _, panicked := tried(f, args); panicked != nil {
					t.Errorf("%s(%.40q..): panics: %v", name, s, panicked)
				}
			}
		}
	}
}
