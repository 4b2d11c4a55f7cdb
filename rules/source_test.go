package rules

import (
	"bytes"
	"go/ast"
	"go/format"
	"go/parser"
	"go/token"
	"os"
	"path/filepath"
	"slices"
	"strconv"
	"strings"
	"testing"
)

// source is a file of the program: not a test, and not of the tests that are laid beside the project.
type source struct {
	path, pack string
	text       []byte
	set        *token.FileSet
	tree       *ast.File
}

func sources(t *testing.T) []source {
	t.Helper()
	paths, err := filepath.Glob("../*/*.go")
	if err != nil {
		t.Fatal(err)
	}
	var out []source
	set := token.NewFileSet()
	for _, p := range paths {
		if strings.HasSuffix(p, "_test.go") || strings.HasPrefix(p, "../sharedtests/") {
			continue
		}
		s := source{path: p, pack: filepath.Base(filepath.Dir(p)), set: set}
		if s.text, err = os.ReadFile(p); err != nil {
			t.Fatal(err)
		}
		if s.tree, err = parser.ParseFile(s.set, p, s.text, parser.ParseComments|parser.SkipObjectResolution); err != nil {
			t.Fatal(err)
		}
		out = append(out, s)
	}
	if len(out) < 27 {
		t.Fatalf("only %d files", len(out))
	}
	return out
}

// below is the layers that each layer calls, as the document's map has it.
func below() map[string]string {
	return map[string]string{
		"api": "", "datum": "api", "row": "api datum", "expr": "api datum row", "stamp": "api", "chain": "api stamp",
		"flow": "api stamp", "track": "api stamp chain flow", "gossip": "api track", "mail": "api",
		"delta": "api row stamp chain", "spine": "api row stamp chain delta", "share": "api row delta spine",
		"linear": "api row stamp expr", "join": "api row stamp chain delta",
		"reduce": "api datum row expr stamp chain delta", "lex": "api datum", "parse": "api datum lex",
		"names": "api datum expr lex parse", "mir": "api datum row expr reduce", "lower": "api datum row expr mir",
		"opt": "api datum row expr mir", "work": "api row stamp chain flow gossip mail delta linear join reduce",
		"render": "api mir work", "coord": "api datum row share mir work render",
		"wire": "api datum row expr parse names lower opt coord", "lab": "api wire",
	}
}

const library = "bytes cmp container/heap errors iter maps math math/bits slices sort strconv strings sync sync/atomic unicode unicode/utf8"

func TestImports(t *testing.T) {
	for _, s := range sources(t) {
		layers, known := below()[s.pack]
		for _, i := range s.tree.Imports {
			path, _ := strconv.Unquote(i.Path.Value)
			layer, own := strings.CutPrefix(path, "penstock/")
			switch {
			case !own && s.pack == "api":
				// api is as it is given.
			case !own && !slices.Contains(strings.Fields(library), path):
				t.Errorf("%s imports %s", s.path, path)
			case own && known && below()[layer] != "" && !slices.Contains(strings.Fields(layers), layer):
				t.Errorf("%s imports %s, which is not below it", s.path, path)
			}
		}
	}
}

func TestLayout(t *testing.T) {
	for _, s := range sources(t) {
		if want, err := format.Source(s.text); err != nil || !bytes.Equal(want, s.text) {
			t.Errorf("%s: not as gofmt lays it out (%v)", s.path, err)
		}
		for _, line := range strings.Split(string(s.text), "\n") {
			if strings.HasPrefix(line, "//go:") || strings.HasPrefix(line, "// +build") {
				t.Errorf("%s: %s", s.path, line)
			}
		}
		for _, d := range s.tree.Decls {
			f, ok := d.(*ast.FuncDecl)
			if !ok {
				continue
			}
			if n := s.set.Position(f.End()).Line - s.set.Position(f.Pos()).Line + 1; n > 60 {
				t.Errorf("%s: %s has %d lines", s.path, f.Name.Name, n)
			}
		}
	}
}

func TestGoFilesAlone(t *testing.T) {
	for pack := range below() {
		entries, err := os.ReadDir("../" + pack)
		if err != nil {
			t.Fatal(err)
		}
		for _, e := range entries {
			if name := e.Name(); !strings.HasSuffix(name, ".go") && name != "testdata" {
				t.Errorf("%s/%s", pack, name)
			}
		}
	}
}

func TestNothingIsPrinted(t *testing.T) {
	for _, s := range sources(t) {
		ast.Inspect(s.tree, func(n ast.Node) bool {
			if call, ok := n.(*ast.CallExpr); ok {
				if f, ok := call.Fun.(*ast.Ident); ok && (f.Name == "print" || f.Name == "println") {
					t.Errorf("%s: %s", s.set.Position(call.Pos()), f.Name)
				}
			}
			return true
		})
	}
}

// At package level stand no maps, no functions, and nothing that a call made, but errors.
func TestPackageLevel(t *testing.T) {
	for _, s := range sources(t) {
		for _, d := range s.tree.Decls {
			g, ok := d.(*ast.GenDecl)
			if !ok || g.Tok != token.VAR {
				continue
			}
			for _, spec := range g.Specs {
				v := spec.(*ast.ValueSpec)
				if len(v.Values) != len(v.Names) || slices.ContainsFunc(v.Values, made) {
					t.Errorf("%s: %s is not written out", s.set.Position(v.Pos()), v.Names[0].Name)
				}
			}
		}
	}
}

func made(value ast.Expr) bool {
	if call, ok := value.(*ast.CallExpr); ok {
		f, ok := call.Fun.(*ast.SelectorExpr)
		return !ok || f.Sel.Name != "New" || len(call.Args) != 1
	}
	found := false
	ast.Inspect(value, func(n ast.Node) bool {
		switch n.(type) {
		case *ast.CallExpr, *ast.FuncLit, *ast.MapType, *ast.UnaryExpr:
			u, sign := n.(*ast.UnaryExpr)
			found = found || !sign || u.Op != token.SUB
		}
		return true
	})
	return found
}
