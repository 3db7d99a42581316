// Package rules tests what shared/LANGUAGE.md and the map of shared/DOC.md ask of the program's files.
package rules

import (
	"bytes"
	"go/ast"
	"go/format"
	"go/parser"
	"go/token"
	"io/fs"
	"os"
	"path/filepath"
	"slices"
	"strconv"
	"strings"
	"testing"
)

const (
	root      = ".."
	module    = "tollgate/"
	mostLines = 60
)

// layers stand in the map's order: each may call those ahead of it.
var layers = []string{"api", "frame", "wire", "member", "flight", "disk", "wal", "snap", "conf", "head", "plane", "raft", "node", "cluster", "admin"}

var library = []string{"bytes", "cmp", "container/heap", "errors", "iter", "maps", "math", "math/bits", "slices", "sort", "strconv", "strings", "sync", "sync/atomic", "unicode", "unicode/utf8"}

type source struct {
	pack, path string
	text       []byte
	tree       *ast.File
	places     *token.FileSet
}

// sources are the program's files; sharedtests is what .ci/run lays beside them.
func sources(t *testing.T) []source {
	t.Helper()
	var all []source
	err := filepath.WalkDir(root, func(path string, d fs.DirEntry, err error) error {
		if err != nil {
			return err
		}
		if d.IsDir() && path != root && (strings.HasPrefix(d.Name(), ".") || d.Name() == "sharedtests") {
			return fs.SkipDir
		}
		if d.IsDir() || !strings.HasSuffix(path, ".go") || strings.HasSuffix(path, "_test.go") {
			return nil
		}
		text, err := os.ReadFile(path)
		if err != nil {
			return err
		}
		places := token.NewFileSet()
		tree, err := parser.ParseFile(places, path, text, parser.ParseComments)
		all = append(all, source{filepath.Base(filepath.Dir(path)), path, text, tree, places})
		return err
	})
	if err != nil {
		t.Fatal(err)
	}
	return all
}

func TestEveryLayerIsThere(t *testing.T) {
	there := map[string]bool{}
	for _, s := range sources(t) {
		there[s.tree.Name.Name] = s.tree.Name.Name == s.pack || there[s.tree.Name.Name]
	}
	for _, l := range layers {
		if !there[l] {
			t.Errorf("no package %s in a folder of its name", l)
		}
	}
}

// P6 too: what isn't imported can't ask the clock, chance or the environment.
func TestImports(t *testing.T) {
	for _, s := range sources(t) {
		for _, i := range s.tree.Imports {
			path, _ := strconv.Unquote(i.Path.Value)
			if callee, own := strings.CutPrefix(path, module); own {
				wantAhead(t, s, callee)
			} else if !slices.Contains(library, path) {
				t.Errorf("%s imports %s", s.path, path)
			}
		}
	}
}

func wantAhead(t *testing.T, s source, callee string) {
	t.Helper()
	caller := slices.Index(layers, s.pack)
	if caller >= 0 && slices.Index(layers, callee) >= caller {
		t.Errorf("%s calls %s, which is not ahead of it", s.path, callee)
	}
}

func TestLayout(t *testing.T) {
	for _, s := range sources(t) {
		laid, err := format.Source(s.text)
		if err != nil || !bytes.Equal(laid, s.text) {
			t.Errorf("%s is not laid out by gofmt", s.path)
		}
		if bytes.Contains(s.text, []byte("\n//go:")) {
			t.Errorf("%s has a line for the compiler", s.path)
		}
	}
}

func TestFunctions(t *testing.T) {
	for _, s := range sources(t) {
		for _, d := range s.tree.Decls {
			f, ok := d.(*ast.FuncDecl)
			if !ok {
				continue
			}
			if n := s.places.Position(f.End()).Line - s.places.Position(f.Pos()).Line + 1; n > mostLines {
				t.Errorf("%s: %s has %d lines", s.path, f.Name.Name, n)
			}
			if f.Name.Name == "init" && f.Recv == nil {
				t.Errorf("%s has an init", s.path)
			}
		}
	}
}
