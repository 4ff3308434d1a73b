// Package rules has tests alone: they hold the program's text against the rules of its language and the document's map.
package rules

import (
	"bytes"
	"go/ast"
	"go/format"
	"go/parser"
	"go/token"
	"os"
	"path/filepath"
	"slices"
	"strconv"
	"strings"
	"testing"
)

const (
	module      = "fulcrum/"
	mostLines   = 60
	libraryFree = " bytes cmp container/heap errors iter maps math math/big math/bits slices sort strconv strings sync sync/atomic unicode unicode/utf8 "
)

// layer is a row of the document's map: layer 1 is the first one.
type layer struct {
	name  string
	calls []int
}

var layers = []layer{
	{"nat", nil}, {"whole", []int{1}}, {"ratio", []int{1, 2}}, {"approx", []int{1, 2, 3}}, {"delta", []int{3}},
	{"linear", []int{3, 5}}, {"tableau", []int{3, 5, 6}}, {"bounds", []int{3, 5}}, {"simplex", []int{3, 5, 6, 7, 8}},
	{"implied", []int{3, 5, 6, 7, 8}}, {"optimum", []int{3, 5, 6, 7, 8, 9}}, {"tokens", nil}, {"sexpr", []int{12}},
	{"terms", []int{3, 12, 13}}, {"meaning", []int{3, 14}}, {"simplify", []int{3, 6, 14, 15}}, {"atoms", []int{3, 5, 6}},
	{"clauses", []int{14, 16, 17}}, {"heap", nil}, {"units", nil}, {"analyse", nil}, {"search", []int{19, 20, 21}},
	{"theory", []int{3, 5, 6, 8, 9, 10, 17, 22}}, {"proof", []int{3, 6, 17}}, {"checker", []int{3, 6, 17, 24}},
	{"interpolant", []int{3, 6, 14, 17, 24, 25}}, {"session", below(27)}, {"console", below(28)},
}

func below(n int) []int {
	var out []int
	for i := 1; i < n; i++ {
		out = append(out, i)
	}
	return out
}

// source is one Go file of the program; tests are none.
type source struct {
	pack, path string
	text       []byte
	set        *token.FileSet
	file       *ast.File
}

func sources(t *testing.T) []source {
	t.Helper()
	paths, err := filepath.Glob("../*/*.go")
	if err != nil || len(paths) == 0 {
		t.Fatal("no sources", err)
	}
	var out []source
	for _, path := range paths {
		pack := filepath.Base(filepath.Dir(path))
		if strings.HasSuffix(path, "_test.go") || pack == "sharedtests" {
			continue
		}
		text, err := os.ReadFile(path)
		if err != nil {
			t.Fatal(err)
		}
		set := token.NewFileSet()
		file, err := parser.ParseFile(set, path, text, parser.ParseComments)
		if err != nil {
			t.Fatal(err)
		}
		out = append(out, source{pack, path, text, set, file})
	}
	return out
}

func TestAllLayersStand(t *testing.T) {
	for _, l := range layers {
		if _, err := os.Stat(filepath.Join("..", l.name, l.name+".go")); err != nil {
			t.Error(err)
		}
	}
}

func TestImports(t *testing.T) {
	for _, s := range sources(t) {
		for _, i := range s.file.Imports {
			path, _ := strconv.Unquote(i.Path.Value)
			if strings.HasPrefix(path, module) {
				wantBelow(t, s, strings.TrimPrefix(path, module))
			} else if !strings.Contains(libraryFree, " "+path+" ") {
				t.Errorf("%s imports %s", s.path, path)
			}
			if i.Name != nil && (i.Name.Name == "_" || i.Name.Name == ".") {
				t.Errorf("%s imports %s as %s", s.path, path, i.Name.Name)
			}
		}
	}
}

// wantBelow: a layer calls those that the map says; other packages are the program's own choice.
func wantBelow(t *testing.T, s source, callee string) {
	t.Helper()
	from, to := number(s.pack), number(callee)
	if s.pack == "api" || from > 0 && to > 0 && !slices.Contains(layers[from-1].calls, to) {
		t.Errorf("%s calls %s, which the map does not say", s.path, callee)
	}
}

// TestTermsTakesTwoOfTokens: the map has layer 14 call 3 and 13; its chapter lets it take these two of 12.
func TestTermsTakesTwoOfTokens(t *testing.T) {
	for _, s := range sources(t) {
		if s.pack != "terms" {
			continue
		}
		ast.Inspect(s.file, func(n ast.Node) bool {
			x, ok := n.(*ast.SelectorExpr)
			if !ok {
				return true
			}
			of, ok := x.X.(*ast.Ident)
			if ok && of.Name == "tokens" && x.Sel.Name != "Reserved" && x.Sel.Name != "Symbol" {
				t.Errorf("%s takes tokens.%s", s.path, x.Sel.Name)
			}
			return true
		})
	}
}

// number is a layer's number; 0, if it is none.
func number(name string) int {
	return slices.IndexFunc(layers, func(l layer) bool { return l.name == name }) + 1
}

func TestNatIsWorkedOutByHand(t *testing.T) {
	for _, s := range sources(t) {
		for _, i := range s.file.Imports {
			if s.pack == "nat" && i.Path.Value == `"math/big"` {
				t.Errorf("%s imports math/big", s.path)
			}
		}
	}
}

func TestLayout(t *testing.T) {
	for _, s := range sources(t) {
		good, err := format.Source(s.text)
		if err != nil || !bytes.Equal(good, s.text) {
			t.Errorf("%s does not have gofmt's layout", s.path)
		}
	}
}

func TestNoDirectives(t *testing.T) {
	for _, s := range sources(t) {
		for _, g := range s.file.Comments {
			for _, c := range g.List {
				if strings.HasPrefix(c.Text, "//go:") || strings.HasPrefix(c.Text, "// +build") || strings.HasPrefix(c.Text, "//export") {
					t.Errorf("%s: %s", s.path, c.Text)
				}
			}
		}
	}
}

func TestFunctionsAreShort(t *testing.T) {
	for _, s := range sources(t) {
		for _, d := range s.file.Decls {
			f, ok := d.(*ast.FuncDecl)
			if !ok {
				continue
			}
			if n := s.set.Position(f.End()).Line - s.set.Position(f.Pos()).Line + 1; n > mostLines {
				t.Errorf("%s: %s has %d lines", s.path, f.Name.Name, n)
			}
		}
	}
}

// At package level a variable is a table that is written out there, a plain value, or an error.
func TestPackageLevel(t *testing.T) {
	for _, s := range sources(t) {
		for _, d := range s.file.Decls {
			g, ok := d.(*ast.GenDecl)
			if !ok || g.Tok != token.VAR {
				continue
			}
			for _, spec := range g.Specs {
				v := spec.(*ast.ValueSpec)
				if len(v.Values) != len(v.Names) {
					t.Errorf("%s: %s has no value of its own", s.path, v.Names[0].Name)
				}
				for _, value := range v.Values {
					if !mayStandAtPackageLevel(value) {
						t.Errorf("%s: %s may not stand at package level", s.path, v.Names[0].Name)
					}
				}
			}
		}
	}
}

func mayStandAtPackageLevel(value ast.Expr) bool {
	switch x := value.(type) {
	case *ast.CompositeLit:
		_, isMap := x.Type.(*ast.MapType)
		return !isMap
	case *ast.CallExpr:
		f, ok := x.Fun.(*ast.SelectorExpr)
		return ok && f.Sel.Name == "New"
	case *ast.BasicLit:
		return x.Kind == token.INT || x.Kind == token.CHAR
	}
	return false
}

func TestGoFilesAlone(t *testing.T) {
	paths, err := filepath.Glob("../*/*")
	if err != nil {
		t.Fatal(err)
	}
	for _, path := range paths {
		folder := filepath.Base(filepath.Dir(path))
		if folder == "sharedtests" || strings.HasPrefix(folder, ".") {
			continue
		}
		if info, err := os.Stat(path); err != nil || !info.IsDir() && filepath.Ext(path) != ".go" {
			t.Errorf("%s stands beside the Go files", path)
		}
	}
}
