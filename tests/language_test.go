package tests

import (
	"bytes"
	"go/ast"
	"go/format"
	"go/importer"
	"go/parser"
	"go/token"
	"go/types"
	"os"
	"path/filepath"
	"slices"
	"strconv"
	"strings"
	"testing"
)

const longestFunction = 60

var allowedImports = []string{
	"bytes", "cmp", "container/heap", "errors", "iter", "maps", "math", "math/bits", "slices", "sort",
	"strconv", "strings", "sync", "sync/atomic", "unicode", "unicode/utf8",
}

// eachProgramFile hands every file of the program to look, read and parsed.
func eachProgramFile(t *testing.T, look func(name string, text []byte, set *token.FileSet, file *ast.File)) {
	t.Helper()
	names, err := filepath.Glob("../impl/*")
	if err != nil || len(names) == 0 {
		t.Fatal("the program is not here:", err)
	}
	for _, name := range names {
		if filepath.Ext(name) != ".go" {
			t.Error("not a Go file:", name)
			continue
		}
		text, err := os.ReadFile(name)
		if err != nil {
			t.Fatal(err)
		}
		set := token.NewFileSet()
		file, err := parser.ParseFile(set, name, text, parser.ParseComments)
		if err != nil {
			t.Fatal(err)
		}
		look(name, text, set, file)
	}
}

func TestProgramIsLaidOutByGofmt(t *testing.T) {
	eachProgramFile(t, func(name string, text []byte, _ *token.FileSet, _ *ast.File) {
		if laid, err := format.Source(text); err != nil || !bytes.Equal(laid, text) {
			t.Error("not gofmt's layout:", name, err)
		}
	})
}

func TestProgramImportsWhatTheLanguageAllows(t *testing.T) {
	eachProgramFile(t, func(name string, _ []byte, _ *token.FileSet, file *ast.File) {
		for _, imported := range file.Imports {
			path, err := strconv.Unquote(imported.Path.Value)
			if err != nil || !slices.Contains(allowedImports, path) {
				t.Error(name, "imports", imported.Path.Value)
			}
		}
	})
}

func TestProgramHasNoDirectives(t *testing.T) {
	eachProgramFile(t, func(name string, _ []byte, _ *token.FileSet, file *ast.File) {
		for _, group := range file.Comments {
			for _, line := range group.List {
				if strings.HasPrefix(line.Text, "//go:") || strings.HasPrefix(line.Text, "// +build") {
					t.Error(name, line.Text)
				}
			}
		}
	})
}

func TestProgramFunctionsAreShort(t *testing.T) {
	eachProgramFile(t, func(name string, _ []byte, set *token.FileSet, file *ast.File) {
		for _, declared := range file.Decls {
			f, ok := declared.(*ast.FuncDecl)
			if !ok {
				continue
			}
			if lines := set.Position(f.End()).Line - set.Position(f.Pos()).Line + 1; lines > longestFunction {
				t.Error(name, f.Name.Name, "has", lines, "lines")
			}
		}
	})
}

// The way of layer 1: words are unsigned numbers, and parts are told to variadic functions.
func TestBytesAreBuiltInTheirWay(t *testing.T) {
	words, variadics := 0, 0
	eachProgramFile(t, func(name string, _ []byte, _ *token.FileSet, file *ast.File) {
		if filepath.Base(name) != "l01_bytes.go" {
			return
		}
		ast.Inspect(file, func(node ast.Node) bool {
			switch x := node.(type) {
			case *ast.Ident:
				if x.Name == "uint16" || x.Name == "uint32" || x.Name == "uint64" {
					words++
				}
			case *ast.Ellipsis:
				if x.Elt != nil {
					variadics++
				}
			}
			return true
		})
	})
	if words == 0 || variadics == 0 {
		t.Error("unsigned words:", words, "variadic functions:", variadics)
	}
}

// eachRecover hands every call of recover in the file to found, with whether it stands in a deferred function literal.
func eachRecover(file *ast.File, found func(deferred bool)) {
	inLiteral := map[ast.Node]bool{}
	ast.Inspect(file, func(node ast.Node) bool {
		switch x := node.(type) {
		case *ast.DeferStmt:
			if literal, ok := x.Call.Fun.(*ast.FuncLit); ok {
				ast.Inspect(literal.Body, func(inner ast.Node) bool {
					if _, nested := inner.(*ast.FuncLit); nested {
						return false
					}
					inLiteral[inner] = true
					return true
				})
			}
		case *ast.CallExpr:
			if isCallOf(x, "recover") {
				found(inLiteral[x])
			}
		}
		return true
	})
}

func isCallOf(call *ast.CallExpr, name string) bool {
	f, ok := call.Fun.(*ast.Ident)
	return ok && f.Name == name
}

func TestProgramRecoversInDeferredLiteralsAlone(t *testing.T) {
	eachProgramFile(t, func(name string, _ []byte, _ *token.FileSet, file *ast.File) {
		eachRecover(file, func(deferred bool) {
			if !deferred {
				t.Error(name, "recovers outside a deferred function literal")
			}
		})
	})
}

// The way of layer 2: what cannot be read is a panic, recovered at the face.
func TestPacketsAreBuiltInTheirWay(t *testing.T) {
	panics, recovers := 0, 0
	eachProgramFile(t, func(name string, _ []byte, _ *token.FileSet, file *ast.File) {
		if filepath.Base(name) != "l02_packet.go" {
			return
		}
		eachRecover(file, func(bool) { recovers++ })
		ast.Inspect(file, func(node ast.Node) bool {
			if call, ok := node.(*ast.CallExpr); ok && isCallOf(call, "panic") {
				panics++
			}
			return true
		})
	})
	if panics == 0 || recovers == 0 {
		t.Error("panics:", panics, "recovers:", recovers)
	}
}

// typesOfProgram tells the type of each expression of the program, and its file of the name.
func typesOfProgram(t *testing.T, base string) (map[ast.Expr]types.TypeAndValue, *ast.File) {
	t.Helper()
	info, file := lookedUp(t, base)
	return info.Types, file
}

// lookedUp tells what the program's expressions and selections are, and its file of the name.
func lookedUp(t *testing.T, base string) (*types.Info, *ast.File) {
	t.Helper()
	set := token.NewFileSet()
	names, err := filepath.Glob("../impl/*.go")
	if err != nil {
		t.Fatal(err)
	}
	var files []*ast.File
	var named *ast.File
	for _, name := range names {
		file, err := parser.ParseFile(set, name, nil, parser.SkipObjectResolution)
		if err != nil {
			t.Fatal(err)
		}
		files = append(files, file)
		if filepath.Base(name) == base {
			named = file
		}
	}
	info := &types.Info{Types: map[ast.Expr]types.TypeAndValue{}, Selections: map[*ast.SelectorExpr]*types.Selection{}}
	config := types.Config{Importer: importer.ForCompiler(set, "source", nil)}
	if _, err := config.Check("impl", set, files, info); err != nil || named == nil {
		t.Fatal(base, named != nil, err)
	}
	return info, named
}

func isArrayOfArrays(given types.Type) bool {
	outer, ok := given.Underlying().(*types.Array)
	if !ok {
		return false
	}
	_, ok = outer.Elem().Underlying().(*types.Array)
	return ok
}

// The way of layer 3: ranges are arrays of arrays, compared; a label leaves the walk.
func TestSelectorsAreBuiltInTheirWay(t *testing.T) {
	told, file := typesOfProgram(t, "l03_select.go")
	compared, left := 0, 0
	ast.Inspect(file, func(node ast.Node) bool {
		switch x := node.(type) {
		case *ast.BinaryExpr:
			if (x.Op == token.EQL || x.Op == token.NEQ) && isArrayOfArrays(told[x.X].Type) {
				compared++
			}
		case *ast.BranchStmt:
			if x.Tok == token.BREAK && x.Label != nil {
				left++
			}
		}
		return true
	})
	if compared == 0 || left == 0 {
		t.Error("arrays of arrays compared:", compared, "walks left by a label:", left)
	}
}

// iotaNames are the constants of the file's groups that are made with iota.
func iotaNames(file *ast.File) []string {
	var names []string
	for _, declared := range file.Decls {
		group, ok := declared.(*ast.GenDecl)
		if !ok || group.Tok != token.CONST || !namesIdent(group, "iota") {
			continue
		}
		for _, spec := range group.Specs {
			for _, name := range spec.(*ast.ValueSpec).Names {
				names = append(names, name.Name)
			}
		}
	}
	return names
}

func namesIdent(node ast.Node, name string) bool {
	found := false
	ast.Inspect(node, func(inner ast.Node) bool {
		if x, ok := inner.(*ast.Ident); ok && x.Name == name {
			found = true
		}
		return true
	})
	return found
}

// hasFunctionField is so of a row that keeps a function, or that is one.
func hasFunctionField(row types.Type) bool {
	if _, ok := row.Underlying().(*types.Signature); ok {
		return true
	}
	fields, ok := row.Underlying().(*types.Struct)
	if !ok {
		return false
	}
	for i := range fields.NumFields() {
		if _, ok := fields.Field(i).Type().Underlying().(*types.Signature); ok {
			return true
		}
	}
	return false
}

// The way of layer 4: actions are constants with iota, with function values in a table in a function.
func TestPolicyIsBuiltInItsWay(t *testing.T) {
	told, file := typesOfProgram(t, "l04_policy.go")
	names := iotaNames(file)
	for _, name := range []string{"ActionDrop", "ActionPass", "ActionSeal"} {
		if !slices.Contains(names, name) {
			t.Error("not made with iota:", name)
		}
	}
	tables := 0
	for _, declared := range file.Decls {
		f, ok := declared.(*ast.FuncDecl)
		if !ok {
			continue
		}
		ast.Inspect(f, func(node ast.Node) bool {
			literal, ok := node.(*ast.CompositeLit)
			if !ok || len(literal.Elts) < 3 {
				return true
			}
			if table, ok := told[literal].Type.Underlying().(interface{ Elem() types.Type }); ok && hasFunctionField(table.Elem()) {
				tables++
			}
			return true
		})
	}
	if tables == 0 {
		t.Error("no table of functions stands in a function")
	}
}

// isMapByTerms is so of a map whose keys are terms.
func isMapByTerms(given types.Type) bool {
	if given == nil {
		return false
	}
	table, ok := given.Underlying().(*types.Map)
	if !ok {
		return false
	}
	key, ok := table.Key().(*types.Named)
	return ok && key.Obj().Name() == "Term"
}

// The way of layer 5: terms are struct keys of a map; what goes is deleted.
func TestTermsAreBuiltInTheirWay(t *testing.T) {
	told, file := typesOfProgram(t, "l05_term.go")
	asked, deleted := 0, 0
	ast.Inspect(file, func(node ast.Node) bool {
		switch x := node.(type) {
		case *ast.IndexExpr:
			if isMapByTerms(told[x.X].Type) {
				asked++
			}
		case *ast.CallExpr:
			if isCallOf(x, "delete") && isMapByTerms(told[x.Args[0]].Type) {
				deleted++
			}
		}
		return true
	})
	if asked == 0 || deleted == 0 {
		t.Error("terms asked for in a map:", asked, "terms deleted from one:", deleted)
	}
}

// isIteratorOfPlaces is so of what can be ranged over for one number of 64 bits after the other.
func isIteratorOfPlaces(given types.Type) bool {
	if given == nil {
		return false
	}
	face, ok := given.Underlying().(*types.Signature)
	if !ok || face.Params().Len() != 1 {
		return false
	}
	yield, ok := face.Params().At(0).Type().Underlying().(*types.Signature)
	return ok && yield.Params().Len() == 1 && types.Identical(yield.Params().At(0).Type(), types.Typ[types.Int64])
}

// The way of layer 6: what is open is gone through by an iterator that is ranged over.
func TestWhatIsKnownIsBuiltInItsWay(t *testing.T) {
	told, file := typesOfProgram(t, "l06_derive.go")
	iterators, ranged := 0, 0
	ast.Inspect(file, func(node ast.Node) bool {
		switch x := node.(type) {
		case *ast.FuncLit:
			if isIteratorOfPlaces(told[x].Type) {
				iterators++
			}
		case *ast.RangeStmt:
			if isIteratorOfPlaces(told[x.X].Type) {
				ranged++
			}
		}
		return true
	})
	if iterators == 0 || ranged == 0 {
		t.Error("iterators:", iterators, "ranged over:", ranged)
	}
}

// kindsTold counts the types that the cases of a type switch name.
func kindsTold(given *ast.TypeSwitchStmt) int {
	kinds := 0
	for _, clause := range given.Body.List {
		kinds += len(clause.(*ast.CaseClause).List)
	}
	return kinds
}

// switchedValue is what a type switch asks the type of.
func switchedValue(given *ast.TypeSwitchStmt) ast.Expr {
	switch x := given.Assign.(type) {
	case *ast.AssignStmt:
		return x.Rhs[0].(*ast.TypeAssertExpr).X
	case *ast.ExprStmt:
		return x.X.(*ast.TypeAssertExpr).X
	}
	return nil
}

// The way of layer 7: what is written is told by a type switch over an interface.
func TestTheWireIsBuiltInItsWay(t *testing.T) {
	told, file := typesOfProgram(t, "l07_wire.go")
	switches := 0
	ast.Inspect(file, func(node ast.Node) bool {
		given, ok := node.(*ast.TypeSwitchStmt)
		if !ok {
			return true
		}
		face, ok := told[switchedValue(given)].Type.Underlying().(*types.Interface)
		if ok && face.NumMethods() > 0 && kindsTold(given) > 1 {
			switches++
		}
		return true
	})
	if switches == 0 {
		t.Error("no type switch over an interface tells what is written")
	}
}

// namesType is so of a type of the program that has that name.
func namesType(given types.Type, name string) bool {
	named, ok := given.(*types.Named)
	return ok && named.Obj().Name() == name
}

func isFloat(given types.Type) bool {
	basic, ok := given.(*types.Basic)
	return ok && basic.Kind() == types.Float64
}

// The way of layer 8: suites are compared as structs; ranks are floats, one that is not a number for none.
func TestProposalsAreBuiltInTheirWay(t *testing.T) {
	told, file := typesOfProgram(t, "l08_suite.go")
	suites, ranks, none := 0, 0, 0
	ast.Inspect(file, func(node ast.Node) bool {
		switch x := node.(type) {
		case *ast.BinaryExpr:
			if (x.Op == token.EQL || x.Op == token.NEQ) && namesType(told[x.X].Type, "Suite") {
				suites++
			}
			if (x.Op == token.LSS || x.Op == token.GTR) && isFloat(told[x.X].Type) {
				ranks++
			}
		case *ast.SelectorExpr:
			if namesIdent(x, "math") && x.Sel.Name == "NaN" {
				none++
			}
		}
		return true
	})
	if suites == 0 || ranks == 0 || none == 0 {
		t.Error("suites compared:", suites, "ranks compared:", ranks, "ranks that are not a number:", none)
	}
}

// embedsTable is so of a struct with an embedded table of terms, or with a struct that keeps one.
func embedsTable(given *types.Struct) bool {
	for i := range given.NumFields() {
		field := given.Field(i)
		if !field.Embedded() {
			continue
		}
		kept := field.Type()
		if pointer, ok := kept.Underlying().(*types.Pointer); ok {
			kept = pointer.Elem()
		}
		if isTable(kept) {
			return true
		}
		inner, ok := kept.Underlying().(*types.Struct)
		for k := 0; ok && k < inner.NumFields(); k++ {
			if isTable(inner.Field(k).Type()) {
				return true
			}
		}
	}
	return false
}

func isTable(given types.Type) bool {
	list, ok := given.Underlying().(*types.Slice)
	return ok && namesType(list.Elem(), "Term")
}

// The way of layer 9: a maker embeds the table, and its methods are promoted.
func TestKeysAreBuiltInTheirWay(t *testing.T) {
	info, file := lookedUp(t, "l09_keys.go")
	makers, promoted := 0, 0
	ast.Inspect(file, func(node ast.Node) bool {
		switch x := node.(type) {
		case *ast.StructType:
			if embedsTable(info.Types[x].Type.(*types.Struct)) {
				makers++
			}
		case *ast.SelectorExpr:
			if used := info.Selections[x]; used != nil && used.Kind() == types.MethodVal && len(used.Index()) > 1 {
				promoted++
			}
		}
		return true
	})
	if makers == 0 || promoted == 0 {
		t.Error("makers that embed a table:", makers, "promoted methods used:", promoted)
	}
}

// isWhole is so of the whole numbers, of whatever kind.
func isWhole(given types.Type) bool {
	basic, ok := given.Underlying().(*types.Basic)
	return ok && basic.Info()&types.IsInteger != 0
}

// The way of layer 10: bits are shifted; numbers are ranged over as integers.
func TestWindowsAreBuiltInTheirWay(t *testing.T) {
	told, file := typesOfProgram(t, "l10_window.go")
	shifted, ranged := 0, 0
	ast.Inspect(file, func(node ast.Node) bool {
		switch x := node.(type) {
		case *ast.BinaryExpr:
			// A shift that is a constant shifts nothing of a window.
			if (x.Op == token.SHL || x.Op == token.SHR) && told[x].Value == nil {
				shifted++
			}
		case *ast.RangeStmt:
			if isWhole(told[x.X].Type) {
				ranged++
			}
		}
		return true
	})
	if shifted == 0 || ranged == 0 {
		t.Error("bits shifted:", shifted, "integers ranged over:", ranged)
	}
}

// methodValues counts the methods of a value in a literal that are kept and not called.
func methodValues(info *types.Info, literal *ast.CompositeLit) int {
	kept := 0
	for _, element := range literal.Elts {
		if pair, ok := element.(*ast.KeyValueExpr); ok {
			element = pair.Value
		}
		x, ok := element.(*ast.SelectorExpr)
		if ok && info.Selections[x] != nil && info.Selections[x].Kind() == types.MethodVal {
			kept++
		}
	}
	return kept
}

// The way of layer 11: kinds are method values in an array; words fall through.
func TestGatesAreBuiltInTheirWay(t *testing.T) {
	info, file := lookedUp(t, "l11_gate.go")
	kinds, through := 0, 0
	ast.Inspect(file, func(node ast.Node) bool {
		switch x := node.(type) {
		case *ast.CompositeLit:
			if _, ok := info.Types[x].Type.Underlying().(*types.Array); ok {
				kinds = max(kinds, methodValues(info, x))
			}
		case *ast.BranchStmt:
			if x.Tok == token.FALLTHROUGH {
				through++
			}
		}
		return true
	})
	if kinds < 5 || through == 0 {
		t.Error("method values in an array:", kinds, "words that fall through:", through)
	}
}
