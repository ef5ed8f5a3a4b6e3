package tests

import (
	"bytes"
	"go/ast"
	"go/format"
	"go/importer"
	"go/parser"
	"go/token"
	"go/types"
	"os"
	"path/filepath"
	"slices"
	"strconv"
	"strings"
	"testing"
)

var allowedImports = []string{
	"bytes", "cmp", "container/heap", "errors", "iter", "maps", "math", "math/bits", "slices", "sort", "strconv", "strings",
	"sync", "sync/atomic", "unicode", "unicode/utf8",
}

// parsed reads a file of the program; its text must be laid out as gofmt does it.
func parsed(t *testing.T, fset *token.FileSet, path string) *ast.File {
	t.Helper()
	text, err := os.ReadFile(path)
	if err != nil {
		t.Fatal(err)
	}
	laid, err := format.Source(text)
	if err != nil {
		t.Fatal(err)
	}
	if !bytes.Equal(laid, text) {
		t.Errorf("%s is not laid out by gofmt", path)
	}
	file, err := parser.ParseFile(fset, path, text, parser.ParseComments)
	if err != nil {
		t.Fatal(err)
	}
	return file
}

func TestProgramKeepsToTheLanguage(t *testing.T) {
	paths, err := filepath.Glob("../impl/*")
	if err != nil || len(paths) == 0 {
		t.Fatal("no files", err)
	}
	for _, path := range paths {
		if filepath.Ext(path) != ".go" {
			t.Errorf("%s is no Go file", path)
			continue
		}
		fset := token.NewFileSet()
		file := parsed(t, fset, path)
		for _, i := range file.Imports {
			name, _ := strconv.Unquote(i.Path.Value)
			if !slices.Contains(allowedImports, name) {
				t.Errorf("%s imports %s", path, name)
			}
		}
		for _, group := range file.Comments {
			for _, c := range group.List {
				if strings.HasPrefix(c.Text, "//go:") || strings.HasPrefix(c.Text, "// +build") {
					t.Errorf("%s has a line %s", path, c.Text)
				}
			}
		}
		for _, d := range file.Decls {
			if f, ok := d.(*ast.FuncDecl); ok {
				if n := fset.Position(f.End()).Line - fset.Position(f.Pos()).Line + 1; n > 60 {
					t.Errorf("%s: %s has %d lines", path, f.Name.Name, n)
				}
			}
		}
	}
}

// The way of the first stage: a table of the sixteen half bytes, an array
// that is written out at its declaration.
func TestSumHasATableOfHalfBytes(t *testing.T) {
	file := parsed(t, token.NewFileSet(), "../impl/l01_codec.go")
	for _, d := range file.Decls {
		g, ok := d.(*ast.GenDecl)
		if !ok || g.Tok != token.VAR {
			continue
		}
		for _, s := range g.Specs {
			for _, v := range s.(*ast.ValueSpec).Values {
				lit, ok := v.(*ast.CompositeLit)
				if !ok {
					continue
				}
				if a, ok := lit.Type.(*ast.ArrayType); ok && a.Len != nil && len(lit.Elts) == 16 {
					return
				}
			}
		}
	}
	t.Error("there is none")
}

// The way of the second stage: slices of slices.
func TestDiskHasSlicesOfSlices(t *testing.T) {
	there := false
	ast.Inspect(parsed(t, token.NewFileSet(), "../impl/l02_disk.go"), func(n ast.Node) bool {
		if outer, ok := n.(*ast.ArrayType); ok && outer.Len == nil {
			inner, ok := outer.Elt.(*ast.ArrayType)
			there = there || ok && inner.Len == nil
		}
		return true
	})
	if !there {
		t.Error("there is none")
	}
}

// The ways of the third stage: nodes behind pointers, functions that call
// themselves, slices of three indexes.
func TestTreesHaveTheirWays(t *testing.T) {
	pointers, recursions, slices := 0, 0, 0
	for _, d := range parsed(t, token.NewFileSet(), "../impl/l03_tree.go").Decls {
		f, isFunc := d.(*ast.FuncDecl)
		ast.Inspect(d, func(n ast.Node) bool {
			switch x := n.(type) {
			case *ast.StructType:
				for _, field := range x.Fields.List {
					if _, ok := field.Type.(*ast.StarExpr); ok {
						pointers++
					}
				}
			case *ast.SliceExpr:
				if x.Slice3 {
					slices++
				}
			case *ast.CallExpr:
				if s, ok := x.Fun.(*ast.SelectorExpr); ok && isFunc && f.Recv != nil && s.Sel.Name == f.Name.Name {
					recursions++
				}
			}
			return true
		})
	}
	if pointers == 0 || recursions == 0 || slices == 0 {
		t.Errorf("%d pointers, %d functions that call themselves, %d slices of three indexes", pointers, recursions, slices)
	}
}

// The ways of the fourth stage: a struct with the superblock embedded, whose
// own methods call the superblock's as theirs.
func TestTheStoreHasItsWays(t *testing.T) {
	embeds, methods, called := map[string]bool{}, map[string]bool{}, 0
	decls := parsed(t, token.NewFileSet(), "../impl/l04_store.go").Decls
	for _, d := range decls {
		if f, ok := d.(*ast.FuncDecl); ok && receiver(f) == "Super" {
			methods[f.Name.Name] = true
		}
		ast.Inspect(d, func(n ast.Node) bool {
			if s, ok := n.(*ast.TypeSpec); ok {
				embeds[s.Name.Name] = hasEmbedded(s, "Super")
			}
			return true
		})
	}
	for _, d := range decls {
		f, ok := d.(*ast.FuncDecl)
		if !ok || !embeds[receiver(f)] {
			continue
		}
		ast.Inspect(f, func(n ast.Node) bool {
			if call, ok := n.(*ast.CallExpr); ok {
				if s, ok := call.Fun.(*ast.SelectorExpr); ok && methods[s.Sel.Name] {
					called++
				}
			}
			return true
		})
	}
	if called == 0 {
		t.Errorf("no method of the superblock is called as one's own: embedded in %v, its methods %v", embeds, methods)
	}
}

func receiver(f *ast.FuncDecl) string {
	if f.Recv == nil {
		return ""
	}
	of := f.Recv.List[0].Type
	if p, ok := of.(*ast.StarExpr); ok {
		of = p.X
	}
	name, _ := of.(*ast.Ident)
	return name.Name
}

func hasEmbedded(s *ast.TypeSpec, name string) bool {
	fields, ok := s.Type.(*ast.StructType)
	return ok && slices.ContainsFunc(fields.Fields.List, func(f *ast.Field) bool {
		id, ok := f.Type.(*ast.Ident)
		return ok && len(f.Names) == 0 && id.Name == name
	})
}

// The ways of the fifth stage: a function that takes any number of roots, and
// structs that are held against each other in the file of the snapshots.
func TestSnapshotsHaveTheirWays(t *testing.T) {
	paths, err := filepath.Glob("../impl/*.go")
	if err != nil {
		t.Fatal(err)
	}
	fset := token.NewFileSet()
	var files []*ast.File
	for _, path := range paths {
		files = append(files, parsed(t, fset, path))
	}
	info := &types.Info{Types: map[ast.Expr]types.TypeAndValue{}}
	config := types.Config{Importer: importer.ForCompiler(fset, "source", nil)}
	if _, err := config.Check("impl", fset, files, info); err != nil {
		t.Fatal(err)
	}
	variadics, compared := 0, 0
	for i, file := range files {
		ast.Inspect(file, func(n ast.Node) bool {
			switch x := n.(type) {
			case *ast.Field:
				if of, ok := x.Type.(*ast.Ellipsis); ok && types.ExprString(of.Elt) == "int" && len(x.Names) == 1 && x.Names[0].Name == "roots" {
					variadics++
				}
			case *ast.BinaryExpr:
				of, ok := info.Types[x.X]
				if ok && (x.Op == token.EQL || x.Op == token.NEQ) && filepath.Base(paths[i]) == "l05_snap.go" {
					if _, ok := of.Type.Underlying().(*types.Struct); ok {
						compared++
					}
				}
			}
			return true
		})
	}
	if variadics == 0 || compared == 0 {
		t.Errorf("%d functions of any number of roots, %d structs compared", variadics, compared)
	}
}

// The ways of the sixth stage: a type that is an error and wraps another one,
// and errors that are found by errors.As and errors.Is.
func TestBackupsHaveTheirWays(t *testing.T) {
	methods, found := map[string][]string{}, map[string]bool{}
	for _, d := range parsed(t, token.NewFileSet(), "../impl/l06_backup.go").Decls {
		if f, ok := d.(*ast.FuncDecl); ok && f.Recv != nil {
			methods[receiver(f)] = append(methods[receiver(f)], f.Name.Name)
		}
		ast.Inspect(d, func(n ast.Node) bool {
			if call, ok := n.(*ast.CallExpr); ok {
				found[types.ExprString(call.Fun)] = true
			}
			return true
		})
	}
	wraps := false
	for _, names := range methods {
		wraps = wraps || slices.Contains(names, "Error") && slices.Contains(names, "Unwrap")
	}
	if !wraps || !found["errors.As"] || !found["errors.Is"] {
		t.Errorf("an error that wraps %t, errors.As %t, errors.Is %t", wraps, found["errors.As"], found["errors.Is"])
	}
}

// The ways of the seventh stage: a map from keys to folders, which is cleared,
// and constants by iota.
func TestMailboxesHaveTheirWays(t *testing.T) {
	maps, clears, iotas := 0, 0, 0
	ast.Inspect(parsed(t, token.NewFileSet(), "../impl/l07_mail.go"), func(n ast.Node) bool {
		switch x := n.(type) {
		case *ast.MapType:
			if types.ExprString(x.Key) == "string" && types.ExprString(x.Value) == "Folder" {
				maps++
			}
		case *ast.CallExpr:
			if types.ExprString(x.Fun) == "clear" {
				clears++
			}
		case *ast.Ident:
			if x.Name == "iota" {
				iotas++
			}
		}
		return true
	})
	if maps == 0 || clears == 0 || iotas == 0 {
		t.Errorf("%d maps from keys to folders, %d calls of clear, %d constants by iota", maps, clears, iotas)
	}
}

// The ways of the eighth stage: a scanner whose methods take it by pointer,
// and a generic filter that a search goes through.
func TestMessagesHaveTheirWays(t *testing.T) {
	scanners, others, filters, filtered := 0, 0, map[string]bool{}, 0
	decls := parsed(t, token.NewFileSet(), "../impl/l08_message.go").Decls
	for _, d := range decls {
		f, ok := d.(*ast.FuncDecl)
		if !ok {
			continue
		}
		if receiver(f) == "scanner" {
			if _, ok := f.Recv.List[0].Type.(*ast.StarExpr); ok {
				scanners++
			} else {
				others++
			}
		}
		if f.Type.TypeParams != nil && f.Type.Results.NumFields() == 1 {
			filters[f.Name.Name] = true
		}
	}
	for _, d := range decls {
		ast.Inspect(d, func(n ast.Node) bool {
			if call, ok := n.(*ast.CallExpr); ok && filters[types.ExprString(call.Fun)] {
				filtered++
			}
			return true
		})
	}
	if scanners == 0 || others > 0 || filtered == 0 {
		t.Errorf("%d methods of the scanner by pointer, %d by value, %d calls of a generic filter", scanners, others, filtered)
	}
}

// The ways of the ninth stage: states that are functions of a type of their
// own, told by a method, and closures that hold the functions they were made
// of.
func TestSessionsHaveTheirWays(t *testing.T) {
	states, told, closures := map[string]bool{}, 0, 0
	decls := parsed(t, token.NewFileSet(), "../impl/l09_smtp.go").Decls
	for _, d := range decls {
		ast.Inspect(d, func(n ast.Node) bool {
			if s, ok := n.(*ast.TypeSpec); ok {
				_, states[s.Name.Name] = s.Type.(*ast.FuncType)
			}
			return true
		})
	}
	for _, d := range decls {
		f, ok := d.(*ast.FuncDecl)
		if !ok || f.Type.Results.NumFields() != 1 || !states[types.ExprString(f.Type.Results.List[0].Type)] {
			continue
		}
		if f.Recv != nil {
			told++
		}
		ast.Inspect(f.Body, func(n ast.Node) bool {
			if lit, ok := n.(*ast.FuncLit); ok && callsGiven(f, lit) {
				closures++
			}
			return true
		})
	}
	if told == 0 || closures == 0 {
		t.Errorf("%d methods tell a state, %d closures call what they were made of", told, closures)
	}
}

// callsGiven tells whether a function literal calls a parameter of the
// function that it stands in.
func callsGiven(f *ast.FuncDecl, lit *ast.FuncLit) bool {
	called := false
	ast.Inspect(lit, func(n ast.Node) bool {
		call, ok := n.(*ast.CallExpr)
		for _, field := range f.Type.Params.List {
			for _, name := range field.Names {
				called = called || ok && types.ExprString(call.Fun) == name.Name
			}
		}
		return true
	})
	return called
}

// The ways of the tenth stage: maps whose values are all method expressions,
// which a method asks by verbs, and methods that take any number of texts.
func TestReadersHaveTheirWays(t *testing.T) {
	methods, expressions, others, variadics := map[string]bool{}, 0, 0, 0
	decls := parsed(t, token.NewFileSet(), "../impl/l10_imap.go").Decls
	for _, d := range decls {
		f, ok := d.(*ast.FuncDecl)
		if !ok || f.Recv == nil {
			continue
		}
		methods["(*"+receiver(f)+")."+f.Name.Name] = true
		for _, field := range f.Type.Params.List {
			if of, ok := field.Type.(*ast.Ellipsis); ok && types.ExprString(of.Elt) == "string" {
				variadics++
			}
		}
	}
	for _, d := range decls {
		ast.Inspect(d, func(n ast.Node) bool {
			lit, ok := n.(*ast.CompositeLit)
			if !ok {
				return true
			}
			if _, ok := lit.Type.(*ast.MapType); !ok {
				return true
			}
			for _, e := range lit.Elts {
				if methods[types.ExprString(e.(*ast.KeyValueExpr).Value)] {
					expressions++
				} else {
					others++
				}
			}
			return true
		})
	}
	if expressions != 13 || others > 0 || variadics == 0 {
		t.Errorf("%d method expressions in maps, %d other values, %d methods of any number of texts", expressions, others, variadics)
	}
}

// The ways of the eleventh stage: two sorts of sessions that embed one core,
// each of which calls the core's methods as its own.
func TestTheServerHasItsWays(t *testing.T) {
	structs, embeds, methods := map[string]bool{}, map[string][]string{}, map[string][]string{}
	decls := parsed(t, token.NewFileSet(), "../impl/l11_server.go").Decls
	for _, d := range decls {
		if f, ok := d.(*ast.FuncDecl); ok {
			methods[receiver(f)] = append(methods[receiver(f)], f.Name.Name)
		}
		ast.Inspect(d, func(n ast.Node) bool {
			if s, ok := n.(*ast.TypeSpec); ok {
				structs[s.Name.Name] = true
			}
			return true
		})
	}
	for _, d := range decls {
		ast.Inspect(d, func(n ast.Node) bool {
			for of := range structs {
				if s, ok := n.(*ast.TypeSpec); ok && hasEmbedded(s, of) {
					embeds[of] = append(embeds[of], s.Name.Name)
				}
			}
			return true
		})
	}
	sorts := 0
	for of, sort := range embeds {
		if len(sort) == 2 && callsOf(decls, sort[0], methods[of]) > 0 && callsOf(decls, sort[1], methods[of]) > 0 {
			sorts++
		}
	}
	if sorts != 1 {
		t.Errorf("%d cores of two sorts: embedded are %v, of methods %v", sorts, embeds, methods)
	}
}

// callsOf counts the calls of these methods in the methods of a type.
func callsOf(decls []ast.Decl, of string, methods []string) int {
	called := 0
	for _, d := range decls {
		f, ok := d.(*ast.FuncDecl)
		if !ok || receiver(f) != of {
			continue
		}
		ast.Inspect(f, func(n ast.Node) bool {
			if call, ok := n.(*ast.CallExpr); ok {
				if s, ok := call.Fun.(*ast.SelectorExpr); ok && slices.Contains(methods, s.Sel.Name) {
					called++
				}
			}
			return true
		})
	}
	return called
}

// The ways of the twelfth stage: a type switch whose cases are kinds of acts, and
// a goroutine that tells by a channel, which it closes and which is ranged over.
func TestTheWorldHasItsWays(t *testing.T) {
	acts, starts, closes, ranges := 0, 0, 0, 0
	ast.Inspect(parsed(t, token.NewFileSet(), "../impl/l12_world.go"), func(n ast.Node) bool {
		switch x := n.(type) {
		case *ast.TypeSwitchStmt:
			for _, c := range x.Body.List {
				for _, of := range c.(*ast.CaseClause).List {
					if strings.HasSuffix(types.ExprString(of), "Act") {
						acts++
					}
				}
			}
		case *ast.GoStmt:
			starts++
		case *ast.DeferStmt:
			if types.ExprString(x.Call.Fun) == "close" {
				closes++
			}
		case *ast.RangeStmt:
			if types.ExprString(x.X) == "told" {
				ranges++
			}
		}
		return true
	})
	if acts == 0 || starts != 1 || closes != 1 || ranges == 0 {
		t.Errorf("%d kinds of acts in type switches, %d goroutines, %d channels closed, %d ranged over", acts, starts, closes, ranges)
	}
}

// The ways of the thirteenth stage: pages that are bits of a number, which are
// counted, and a loop with a label that is gone on with from within another.
func TestTheAuditHasItsWays(t *testing.T) {
	bitwise, counted, labels, jumps := 0, 0, map[string]bool{}, 0
	file := parsed(t, token.NewFileSet(), "../impl/l13_audit.go")
	ast.Inspect(file, func(n ast.Node) bool {
		switch x := n.(type) {
		case *ast.AssignStmt:
			if x.Tok == token.OR_ASSIGN || x.Tok == token.AND_ASSIGN {
				bitwise++
			}
		case *ast.CallExpr:
			if strings.HasPrefix(types.ExprString(x.Fun), "bits.OnesCount") {
				counted++
			}
		case *ast.LabeledStmt:
			switch x.Stmt.(type) {
			case *ast.RangeStmt, *ast.ForStmt:
				labels[x.Label.Name] = true
			}
		}
		return true
	})
	ast.Inspect(file, func(n ast.Node) bool {
		if x, ok := n.(*ast.BranchStmt); ok && x.Label != nil && labels[x.Label.Name] {
			jumps++
		}
		return true
	})
	if bitwise == 0 || counted == 0 || len(labels) == 0 || jumps == 0 {
		t.Errorf("%d sets of bits, %d counted, labels %v, %d jumps to one", bitwise, counted, labels, jumps)
	}
}

// The ways of the fourteenth stage: a function that gives an iterator over
// snapshots, and a loop that ranges over it.
func TestTheArchiveHasItsWays(t *testing.T) {
	iterators, ranges := map[string]bool{}, 0
	file := parsed(t, token.NewFileSet(), "../impl/l14_archive.go")
	for _, d := range file.Decls {
		if f, ok := d.(*ast.FuncDecl); ok && f.Type.Results != nil && len(f.Type.Results.List) == 1 {
			of := types.ExprString(f.Type.Results.List[0].Type)
			iterators[f.Name.Name] = strings.HasPrefix(of, "iter.Seq") && strings.Contains(of, "Snap")
		}
	}
	ast.Inspect(file, func(n ast.Node) bool {
		if x, ok := n.(*ast.RangeStmt); ok {
			if call, ok := x.X.(*ast.CallExpr); ok {
				if s, ok := call.Fun.(*ast.SelectorExpr); ok && iterators[s.Sel.Name] {
					ranges++
				}
			}
		}
		return true
	})
	if ranges == 0 {
		t.Errorf("no loop ranges over an iterator: %v", iterators)
	}
}

// The ways of the fifteenth stage: lines that strings.Cut cuts, words that a loop
// over bytes finds, and a function literal that is deferred, which recovers and
// puts something else in the place of what there was.
func TestTheConsoleHasItsWays(t *testing.T) {
	cuts, splits, bytes, recovers := 0, 0, 0, 0
	ast.Inspect(parsed(t, token.NewFileSet(), "../impl/l15_console.go"), func(n ast.Node) bool {
		switch x := n.(type) {
		case *ast.CallExpr:
			switch types.ExprString(x.Fun) {
			case "strings.Cut":
				cuts++
			case "strings.Fields", "strings.FieldsFunc", "strings.Split":
				splits++
			}
		case *ast.BinaryExpr:
			if _, ok := x.X.(*ast.IndexExpr); ok && (x.Op == token.EQL || x.Op == token.NEQ) {
				bytes++
			}
		case *ast.DeferStmt:
			if lit, ok := x.Call.Fun.(*ast.FuncLit); ok {
				recovers += recoveries(lit)
			}
		}
		return true
	})
	if cuts == 0 || splits > 0 || bytes == 0 || recovers != 1 {
		t.Errorf("%d texts cut, %d split, %d bytes looked at, %d recoveries", cuts, splits, bytes, recovers)
	}
}

// recoveries counts the conditions of a deferred literal that ask for a panic,
// and assign something where there was one.
func recoveries(lit *ast.FuncLit) int {
	n := 0
	ast.Inspect(lit, func(m ast.Node) bool {
		x, ok := m.(*ast.IfStmt)
		if !ok || types.ExprString(x.Cond) != "recover() != nil" {
			return true
		}
		for _, s := range x.Body.List {
			if _, ok := s.(*ast.AssignStmt); ok {
				n++
			}
		}
		return true
	})
	return n
}
