package tests

import (
	"go/ast"
	"go/parser"
	"go/token"
	"go/types"
	"maps"
	"path/filepath"
	"slices"
	"strings"
	"testing"

	"loop.example/g00470/impl"
)

// The map of deeds can't be asked from outside, as no answer hangs on it; so these tests read how impl is written.

func kindNumbers() map[string]int {
	return map[string]int{
		"DdIn": impl.DdIn, "DdShip": impl.DdShip, "DdGive": impl.DdGive, "DdLose": impl.DdLose, "DdTwice": impl.DdTwice, "DdSay": impl.DdSay,
		"DdFall": impl.DdFall, "DdRise": impl.DdRise, "DdTake": impl.DdTake, "DdPair": impl.DdPair, "DdAlone": impl.DdAlone, "DdYield": impl.DdYield,
	}
}

// writtenFunctions are those of impl, methods among them, by name; two methods can have one.
func writtenFunctions(t *testing.T) map[string][]*ast.FuncDecl {
	t.Helper()
	paths, _ := filepath.Glob("../impl/*.go")
	all := map[string][]*ast.FuncDecl{}
	for _, path := range paths {
		file, err := parser.ParseFile(token.NewFileSet(), path, nil, parser.SkipObjectResolution)
		if err != nil {
			t.Fatal(err)
		}
		for _, d := range file.Decls {
			if f, ok := d.(*ast.FuncDecl); ok {
				all[f.Name.Name] = append(all[f.Name.Name], f)
			}
		}
	}
	for _, name := range []string{"makeDeeds", "deedOf", "Do", "DoAll"} {
		if len(all[name]) != 1 {
			t.Fatalf("%d functions are called %s", len(all[name]), name)
		}
	}
	return all
}

// namesIn are all names that stand in the body of a function.
func namesIn(f *ast.FuncDecl) map[string]bool {
	names := map[string]bool{}
	ast.Inspect(f.Body, func(n ast.Node) bool {
		if id, ok := n.(*ast.Ident); ok {
			names[id.Name] = true
		}
		return true
	})
	return names
}

// reached are the names that a function comes to, also by the functions that it names.
func reached(all map[string][]*ast.FuncDecl, from string) map[string]bool {
	names, work := map[string]bool{from: true}, []string{from}
	for len(work) > 0 {
		next := all[work[0]]
		work = work[1:]
		for _, f := range next {
			for name := range namesIn(f) {
				if !names[name] {
					names[name] = true
					work = append(work, name)
				}
			}
		}
	}
	return names
}

// mapDeeds tells of each Kind that the map is made with how its deed is written.
func mapDeeds(t *testing.T, all map[string][]*ast.FuncDecl) map[string]string {
	t.Helper()
	told := map[string]string{}
	ast.Inspect(all["makeDeeds"][0], func(n ast.Node) bool {
		if pair, ok := n.(*ast.KeyValueExpr); ok {
			told[types.ExprString(pair.Key)] = types.ExprString(pair.Value)
		}
		return true
	})
	return told
}

// switchDeeds tells the same of the function; a Kind that it does not take is none.
func switchDeeds(t *testing.T, all map[string][]*ast.FuncDecl) map[string]string {
	t.Helper()
	told := map[string]string{}
	ast.Inspect(all["deedOf"][0], func(n ast.Node) bool {
		one, ok := n.(*ast.CaseClause)
		if !ok {
			return true
		}
		back, ok := one.Body[len(one.Body)-1].(*ast.ReturnStmt)
		if !ok || len(back.Results) != 2 {
			t.Fatal("a case of deedOf that answers nothing")
		}
		for _, kind := range one.List {
			if types.ExprString(back.Results[1]) == "true" {
				told[types.ExprString(kind)] = types.ExprString(back.Results[0])
			}
		}
		return true
	})
	return told
}

// The map and the function tell of the same Kinds, and of the same deed for each.
func TestMapAndFunctionTellOfTheSameKinds(t *testing.T) {
	all := writtenFunctions(t)
	inMap, inSwitch := mapDeeds(t, all), switchDeeds(t, all)
	if !maps.Equal(inMap, inSwitch) {
		t.Errorf("the map has %v, the function tells %v", inMap, inSwitch)
	}
	kinds := kindNumbers()
	if got, want := slices.Sorted(maps.Keys(inMap)), slices.Sorted(maps.Keys(kinds)); !slices.Equal(got, want) {
		t.Errorf("the map has %v, want %v", got, want)
	}
	// no two of one deed
	if deeds := slices.Compact(slices.Sorted(maps.Values(inMap))); len(deeds) != len(kinds) {
		t.Errorf("only %d deeds: %v", len(deeds), deeds)
	}
}

// What Do takes for a Kind is what the map has, and nothing else is.
func TestDoTakesTheKindsOfTheMap(t *testing.T) {
	inMap := map[int]bool{}
	for name := range mapDeeds(t, writtenFunctions(t)) {
		inMap[kindNumbers()[name]] = true
	}
	numbers := slices.Concat(edgeNumbers, wildNumbers)
	for kind := -300; kind <= 300; kind++ {
		numbers = append(numbers, kind)
	}
	for _, kind := range numbers {
		for a := -1; a < 3; a++ {
			d := deedOf(kind, a)
			if _, code := impl.Do(newBox(3, 2), d); (code != impl.CdBad) != inMap[kind] {
				t.Errorf("Do of kind %d, %d: %d", kind, a, code)
			}
			if _, codes := impl.DoAll(newBox(3, 2), []impl.Deed{d}); len(codes) != 1 || (codes[0] != impl.CdBad) != inMap[kind] {
				t.Errorf("DoAll of kind %d, %d: %v", kind, a, codes)
			}
		}
	}
}

// The function reads neither variable, nor does what it hands on; Do goes by the function, and reads both.
func TestTheFunctionReadsNeitherVariable(t *testing.T) {
	all := writtenFunctions(t)
	function := reached(all, "deedOf")
	if function["deeds"] || function["deedsMade"] || !function["DdYield"] {
		t.Error("deedOf comes to a variable, or to no Kind")
	}
	for _, name := range []string{"Do", "DoAll"} {
		if from := reached(all, name); !from["deedOf"] || !from["deeds"] || !from["deedsMade"] {
			t.Errorf("%s does not come to the function, or not to both variables", name)
		}
	}
	// that Do is what reads them, and not what it calls
	if names := namesIn(all["Do"][0]); !names["deeds"] || !names["deedsMade"] {
		t.Error("Do does not read both variables")
	}
}

// What is read from the map is thrown away, wherever that is.
func TestNoAnswerHangsOnTheMap(t *testing.T) {
	reads := 0
	for name, list := range writtenFunctions(t) {
		for _, f := range list {
			if name != "makeDeeds" {
				reads += mapReads(t, f)
			}
		}
	}
	if reads == 0 {
		t.Error("nobody reads the map")
	}
}

// mapReads counts what a function reads from the map and throws away.
func mapReads(t *testing.T, f *ast.FuncDecl) int {
	t.Helper()
	reads := 0
	ast.Inspect(f.Body, func(n ast.Node) bool {
		if to, ok := n.(*ast.AssignStmt); ok && thrownAway(to) {
			reads++
			return false
		}
		if id, ok := n.(*ast.Ident); ok && id.Name == "deeds" {
			t.Errorf("%s goes by the map", f.Name.Name)
		}
		return true
	})
	return reads
}

func thrownAway(to *ast.AssignStmt) bool {
	return len(to.Lhs) == 1 && types.ExprString(to.Lhs[0]) == "_" && strings.HasPrefix(types.ExprString(to.Rhs[0]), "deeds[")
}
