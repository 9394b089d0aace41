package tests

import (
	"bytes"
	"go/ast"
	"go/format"
	"go/parser"
	"go/token"
	"os"
	"path/filepath"
	"strings"
	"testing"
)

const mostLines = 60

const allowedImports = " bytes cmp container/heap errors iter maps math math/bits slices sort strconv strings sync sync/atomic unicode unicode/utf8 "

func programFiles(t *testing.T) []string {
	t.Helper()
	files, err := filepath.Glob("../impl/*")
	if err != nil || len(files) == 0 {
		t.Fatalf("no files of the program: %v", err)
	}
	return files
}

func TestFilesAreLaidOutAsTheLanguageWants(t *testing.T) {
	own, err := filepath.Glob("*.go")
	if err != nil {
		t.Fatal(err)
	}
	for _, p := range append(programFiles(t), own...) {
		if filepath.Ext(p) != ".go" {
			t.Errorf("%s stands beside the Go files", p)
			continue
		}
		text, err := os.ReadFile(p)
		if err != nil {
			t.Fatal(err)
		}
		if laid, err := format.Source(text); err != nil || !bytes.Equal(laid, text) {
			t.Errorf("%s has not gofmt's layout (%v)", p, err)
		}
	}
}

func TestProgramKeepsToTheLanguage(t *testing.T) {
	places := token.NewFileSet()
	for _, p := range programFiles(t) {
		f, err := parser.ParseFile(places, p, nil, parser.ParseComments)
		if err != nil {
			t.Fatal(err)
		}
		for _, i := range f.Imports {
			if !strings.Contains(allowedImports, " "+strings.Trim(i.Path.Value, "\"")+" ") {
				t.Errorf("%s imports %s", p, i.Path.Value)
			}
		}
		for _, group := range f.Comments {
			for _, c := range group.List {
				if strings.HasPrefix(c.Text, "//go:") {
					t.Errorf("%s has %s", p, c.Text)
				}
			}
		}
		for _, d := range f.Decls {
			if x, ok := d.(*ast.FuncDecl); ok {
				if n := places.Position(x.End()).Line - places.Position(x.Pos()).Line + 1; n > mostLines {
					t.Errorf("%s: %s has %d lines", p, x.Name.Name, n)
				}
			}
		}
	}
}
