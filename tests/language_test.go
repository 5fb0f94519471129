package tests

import (
	"bytes"
	"go/ast"
	"go/format"
	"go/parser"
	"go/token"
	"os"
	"path/filepath"
	"slices"
	"strings"
	"testing"
)

// permitted are the packages that ../shared/LANGUAGE.md lets the program import.
var permitted = strings.Fields("bytes cmp container/heap errors iter maps math math/bits slices sort strconv strings sync sync/atomic unicode unicode/utf8")

const maxLines = 60

// TestLanguage checks the rules of ../shared/LANGUAGE.md about imports, the length of functions and the layout.
func TestLanguage(t *testing.T) {
	files, err := filepath.Glob("../impl/*.go")
	if err != nil || len(files) == 0 {
		t.Fatal("no files of the program", err)
	}
	for _, file := range files {
		source, err := os.ReadFile(file)
		if err != nil {
			t.Fatal(err)
		}
		if formatted, err := format.Source(source); err != nil || !bytes.Equal(formatted, source) {
			t.Error(file, "has not the layout of gofmt", err)
		}
		checkFile(t, file, source)
	}
}

func checkFile(t *testing.T, file string, source []byte) {
	set := token.NewFileSet()
	tree, err := parser.ParseFile(set, file, source, 0)
	if err != nil {
		t.Fatal(err)
	}
	for _, i := range tree.Imports {
		if !slices.Contains(permitted, strings.Trim(i.Path.Value, `"`)) {
			t.Error(file, "imports", i.Path.Value)
		}
	}
	for _, d := range tree.Decls {
		if f, ok := d.(*ast.FuncDecl); ok {
			if n := set.Position(f.End()).Line - set.Position(f.Pos()).Line + 1; n > maxLines {
				t.Error(file, f.Name.Name, "has", n, "lines")
			}
		}
	}
}
