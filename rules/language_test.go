package rules

import (
	"bytes"
	"go/ast"
	"go/format"
	"go/parser"
	"go/token"
	"os"
	"path/filepath"
	"slices"
	"strings"
	"testing"
)

// The packages in the order of the document's map: each may use those ahead of it.
var packages = []string{
	"api", "crc", "pack", "disk", "wal", "place", "ballot", "cmd", "deps", "attr", "inst", "index",
	"tally", "choose", "graph", "order", "store", "wire", "wait", "beat", "replica", "bag", "cluster", "judge",
}

// What may be used of the library, and of a package of which not all may be: its names.
var library = map[string][]string{
	"bytes": nil, "cmp": nil, "container/heap": nil, "errors": nil, "maps": nil, "math": nil,
	"math/bits": nil, "slices": nil, "sort": nil, "strconv": nil, "strings": nil,
	"sync/atomic": nil, "unicode": nil, "unicode/utf8": nil,
	"iter": {"Seq", "Seq2"},
	"sync": {"Mutex", "RWMutex", "WaitGroup", "Once"},
}

const mostLines = 60

type source struct {
	pack, path string
	text       []byte
	fset       *token.FileSet
	file       *ast.File
}

// sources reads what the program is made of, tests left out.
func sources(t *testing.T) []source {
	t.Helper()
	var all []source
	for _, p := range packages {
		paths, err := filepath.Glob(filepath.Join("..", p, "*.go"))
		if err != nil || len(paths) == 0 {
			t.Fatalf("package %s has no files (%v)", p, err)
		}
		for _, path := range paths {
			if !strings.HasSuffix(path, "_test.go") {
				all = append(all, read(t, p, path))
			}
		}
	}
	return all
}

func read(t *testing.T, pack, path string) source {
	t.Helper()
	text, err := os.ReadFile(path)
	if err != nil {
		t.Fatal(err)
	}
	fset := token.NewFileSet()
	file, err := parser.ParseFile(fset, path, text, parser.ParseComments)
	if err != nil {
		t.Fatal(err)
	}
	return source{pack, path, text, fset, file}
}

func (s source) at(n ast.Node) string { return s.fset.Position(n.Pos()).String() }

// TestImports: the library's packages that may be used, and the layers ahead.
func TestImports(t *testing.T) {
	for _, s := range sources(t) {
		for _, i := range s.file.Imports {
			path := strings.Trim(i.Path.Value, `"`)
			if !mayImport(s.pack, path) {
				t.Errorf("%s: %s may not use %s", s.at(i), s.pack, path)
			}
			if i.Name != nil {
				t.Errorf("%s: %s has another name here", s.at(i), path)
			}
		}
	}
}

func mayImport(pack, path string) bool {
	own, ok := strings.CutPrefix(path, "comitia/")
	if !ok {
		_, may := library[path]
		return may
	}
	place := slices.Index(packages, own)
	return place >= 0 && place < slices.Index(packages, pack)
}

// TestNames: of a package of which not all may be used no other name is, and nothing is printed.
func TestNames(t *testing.T) {
	for _, s := range sources(t) {
		ast.Inspect(s.file, func(n ast.Node) bool {
			switch x := n.(type) {
			case *ast.SelectorExpr:
				if p, ok := x.X.(*ast.Ident); ok && p.Obj == nil {
					if may := library[p.Name]; may != nil && !slices.Contains(may, x.Sel.Name) {
						t.Errorf("%s: %s.%s may not be used", s.at(x), p.Name, x.Sel.Name)
					}
				}
			case *ast.CallExpr:
				if f, ok := x.Fun.(*ast.Ident); ok && (f.Name == "print" || f.Name == "println") {
					t.Errorf("%s: %s prints", s.at(x), f.Name)
				}
			}
			return true
		})
	}
}

// TestFiles: a package's folder has Go files alone.
func TestFiles(t *testing.T) {
	for _, p := range packages {
		l, err := os.ReadDir(filepath.Join("..", p))
		if err != nil {
			t.Fatal(err)
		}
		for _, e := range l {
			if e.IsDir() || !strings.HasSuffix(e.Name(), ".go") {
				t.Errorf("%s/%s is no Go file", p, e.Name())
			}
		}
	}
}

// TestDirectives: no //go: line, no build tag.
func TestDirectives(t *testing.T) {
	for _, s := range sources(t) {
		for _, g := range s.file.Comments {
			for _, c := range g.List {
				if strings.HasPrefix(c.Text, "//go:") || strings.HasPrefix(strings.TrimLeft(c.Text, "/ "), "+build") {
					t.Errorf("%s: %s", s.at(c), c.Text)
				}
			}
		}
	}
}

// TestLayout: gofmt's layout, and functions that are not long.
func TestLayout(t *testing.T) {
	for _, s := range sources(t) {
		laid, err := format.Source(s.text)
		if err != nil || !bytes.Equal(laid, s.text) {
			t.Errorf("%s has not gofmt's layout (%v)", s.path, err)
		}
		for _, d := range s.file.Decls {
			f, ok := d.(*ast.FuncDecl)
			if !ok {
				continue
			}
			lines := s.fset.Position(f.End()).Line - s.fset.Position(f.Pos()).Line + 1
			if lines > mostLines {
				t.Errorf("%s: %s has %d lines", s.at(f), f.Name.Name, lines)
			}
		}
	}
}

// TestPackageLevel: constants, errors made by errors.New, and written-out tables.
func TestPackageLevel(t *testing.T) {
	for _, s := range sources(t) {
		for _, d := range s.file.Decls {
			g, ok := d.(*ast.GenDecl)
			if !ok || g.Tok != token.VAR {
				continue
			}
			for _, spec := range g.Specs {
				v := spec.(*ast.ValueSpec)
				if len(v.Values) != len(v.Names) {
					t.Errorf("%s: a variable without a value of its own", s.at(v))
				}
				for _, value := range v.Values {
					if why := notWrittenOut(value); why != "" {
						t.Errorf("%s: %s at package level", s.at(value), why)
					}
				}
			}
		}
	}
}

// notWrittenOut tells what value has that may not stand at package level; nothing, if all may.
func notWrittenOut(value ast.Expr) (why string) {
	if l, ok := value.(*ast.BasicLit); ok && (l.Kind == token.STRING || l.Kind == token.FLOAT) {
		return "a variable of a text or a float"
	}
	ast.Inspect(value, func(n ast.Node) bool {
		switch x := n.(type) {
		case *ast.CallExpr:
			if !callsErrorsNew(x) {
				why = "a call"
			}
		case *ast.MapType:
			why = "a map"
		case *ast.FuncLit, *ast.FuncType:
			why = "a function"
		case *ast.UnaryExpr:
			if x.Op == token.AND {
				why = "a pointer"
			}
		}
		return true
	})
	return why
}

func callsErrorsNew(x *ast.CallExpr) bool {
	f, ok := x.Fun.(*ast.SelectorExpr)
	if !ok {
		return false
	}
	p, ok := f.X.(*ast.Ident)
	return ok && p.Name == "errors" && f.Sel.Name == "New"
}
