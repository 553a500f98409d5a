package tests

import (
	"bytes"
	"go/ast"
	"go/format"
	"go/parser"
	"go/token"
	"os"
	"path/filepath"
	"slices"
	"strconv"
	"strings"
	"testing"
)

// TestLanguage checks the rules of the program's language that its text shows: imports, directives, layout, and the length of functions.
func TestLanguage(t *testing.T) {
	files, err := filepath.Glob("../impl/*")
	if err != nil || len(files) == 0 {
		t.Fatal("no files of the program: ", err)
	}
	for _, name := range files {
		if filepath.Ext(name) != ".go" {
			t.Errorf("%s is no Go file", name)
			continue
		}
		text, err := os.ReadFile(name)
		if err != nil {
			t.Fatal(err)
		}
		if laid, err := format.Source(text); err != nil || !bytes.Equal(laid, text) {
			t.Errorf("%s does not have gofmt's layout: %v", name, err)
		}
		if !strings.HasSuffix(name, "_test.go") {
			checkLanguage(t, name, text)
		}
	}
}

func checkLanguage(t *testing.T, name string, text []byte) {
	allowed := []string{"bytes", "cmp", "container/heap", "errors", "iter", "maps", "math", "math/bits", "slices", "sort", "strconv", "strings", "sync", "sync/atomic", "unicode", "unicode/utf8"}
	fset := token.NewFileSet()
	file, err := parser.ParseFile(fset, name, text, parser.ParseComments|parser.SkipObjectResolution)
	if err != nil {
		t.Fatal(err)
	}
	for _, i := range file.Imports {
		if path, err := strconv.Unquote(i.Path.Value); err != nil || !slices.Contains(allowed, path) {
			t.Errorf("%s imports %s", name, i.Path.Value)
		}
	}
	for _, group := range file.Comments {
		for _, c := range group.List {
			if strings.HasPrefix(c.Text, "//go:") || strings.HasPrefix(c.Text, "// +build") {
				t.Errorf("%s has the directive %s", name, c.Text)
			}
		}
	}
	for _, d := range file.Decls {
		if f, ok := d.(*ast.FuncDecl); ok {
			if lines := fset.Position(f.End()).Line - fset.Position(f.Pos()).Line + 1; lines > 60 {
				t.Errorf("%s: %s has %d lines", name, f.Name.Name, lines)
			}
		}
	}
}
