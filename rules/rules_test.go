// Package rules: tests of what holds for every file of the program: what it
// may import, how it is laid out, and that what is given stays as it is.
package rules

import (
	"bytes"
	"crypto/sha256"
	"encoding/hex"
	"go/ast"
	"go/format"
	"go/parser"
	"go/token"
	"os"
	"path/filepath"
	"slices"
	"strconv"
	"strings"
	"testing"
)

const (
	root     = ".."
	module   = "foresight"
	maxLines = 60
)

// library is what may be imported of it.
func library() []string {
	return strings.Fields("bytes cmp container/heap errors iter maps math math/bits slices sort strconv strings sync sync/atomic unicode unicode/utf8")
}

// packages is the program's folders.
func packages() []string {
	return strings.Fields("api bandit belief birth cast chance choice coin depot desk equations line lots net path plain ratio renew risk roads seats server shop stop store tape tree trip walk")
}

// files is every file of the program, by its path.
func files(t *testing.T) []string {
	t.Helper()
	var out []string
	for _, name := range packages() {
		entries, err := os.ReadDir(filepath.Join(root, name))
		if err != nil {
			t.Fatal(err)
		}
		for _, e := range entries {
			out = append(out, filepath.Join(root, name, e.Name()))
		}
	}
	return out
}

// sources is the Go files among them that are no tests.
func sources(t *testing.T) []string {
	t.Helper()
	var out []string
	for _, path := range files(t) {
		if strings.HasSuffix(path, ".go") && !strings.HasSuffix(path, "_test.go") {
			out = append(out, path)
		}
	}
	return out
}

// bytesOf is what a file has.
func bytesOf(t *testing.T, path string) []byte {
	t.Helper()
	b, err := os.ReadFile(path)
	if err != nil {
		t.Fatal(err)
	}
	return b
}

// TestGivenWhole: packages api and plain are as they were given, to the byte,
// with nothing beside them.
func TestGivenWhole(t *testing.T) {
	for path, want := range map[string]string{
		"api/api.go":     "2ab3fc11c0ff3fe68362ed325540113f4b9574eb9fac3ed82b031d86c6c5a2e3",
		"plain/plain.go": "648ec1641337fef9c0bce97f601578658b5a023e2e6573cf51527351c506dc62",
	} {
		sum := sha256.Sum256(bytesOf(t, filepath.Join(root, path)))
		if hex.EncodeToString(sum[:]) != want {
			t.Errorf("%s is not as it was given", path)
		}
		beside, err := os.ReadDir(filepath.Join(root, filepath.Dir(path)))
		if err != nil || len(beside) != 1 {
			t.Errorf("%s: %d files in its folder, %v", path, len(beside), err)
		}
	}
}

// TestOnlyGoFiles: a package folder has Go files alone.
func TestOnlyGoFiles(t *testing.T) {
	for _, path := range files(t) {
		if !strings.HasSuffix(path, ".go") {
			t.Errorf("%s is no Go file", path)
		}
	}
}

// TestImports: the language's rule 1.
func TestImports(t *testing.T) {
	for _, path := range sources(t) {
		f, err := parser.ParseFile(token.NewFileSet(), path, nil, parser.ImportsOnly)
		if err != nil {
			t.Fatal(err)
		}
		for _, i := range f.Imports {
			name, err := strconv.Unquote(i.Path.Value)
			if err != nil {
				t.Fatal(err)
			}
			if !strings.HasPrefix(name, module+"/") && !slices.Contains(library(), name) {
				t.Errorf("%s imports %s", path, name)
			}
		}
	}
}

// TestRemarks: the language's rule 2: no //go: line, no build tag, no name of
// a file that is one.
func TestRemarks(t *testing.T) {
	for _, path := range sources(t) {
		for _, line := range strings.Split(string(bytesOf(t, path)), "\n") {
			line = strings.TrimSpace(line)
			if strings.HasPrefix(line, "//go:") || strings.HasPrefix(line, "// +build") || strings.HasPrefix(line, "//export") {
				t.Errorf("%s: %s", path, line)
			}
		}
		if strings.Contains(filepath.Base(path), "_") {
			t.Errorf("%s: a name behind a low line may be a build tag", path)
		}
	}
}

// TestLayout: the language's rule 9: gofmt's layout, short functions.
func TestLayout(t *testing.T) {
	for _, path := range sources(t) {
		text := bytesOf(t, path)
		laid, err := format.Source(text)
		if err != nil {
			t.Fatal(err)
		}
		if !bytes.Equal(laid, text) {
			t.Errorf("%s has another layout than gofmt's", path)
		}
		set := token.NewFileSet()
		f, err := parser.ParseFile(set, path, text, 0)
		if err != nil {
			t.Fatal(err)
		}
		for _, d := range f.Decls {
			if fun, ok := d.(*ast.FuncDecl); ok && lines(set, fun) > maxLines {
				t.Errorf("%s: %s has %d lines", path, fun.Name.Name, lines(set, fun))
			}
		}
	}
}

// lines is how many a function has.
func lines(set *token.FileSet, fun *ast.FuncDecl) int {
	return set.Position(fun.End()).Line - set.Position(fun.Pos()).Line + 1
}
