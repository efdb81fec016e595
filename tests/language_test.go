package tests

import (
	"bytes"
	"go/ast"
	"go/format"
	"go/parser"
	"go/token"
	"os"
	"path/filepath"
	"strings"
	"testing"
)

const allowedImports = " bytes cmp container/heap errors iter maps math math/bits slices sort strconv strings sync sync/atomic unicode unicode/utf8 "

const longestFunction = 60

// The program keeps to what the language page says of imports, layout and length.
func TestLanguage(t *testing.T) {
	files, err := filepath.Glob("../impl/*.go")
	if err != nil || len(files) == 0 {
		t.Fatal("no program found:", err)
	}
	for _, name := range files {
		text, err := os.ReadFile(name)
		if err != nil {
			t.Fatal(err)
		}
		if laid, err := format.Source(text); err != nil || !bytes.Equal(laid, text) {
			t.Errorf("%s: not in gofmt's layout (%v)", name, err)
		}
		fset := token.NewFileSet()
		file, err := parser.ParseFile(fset, name, text, parser.ParseComments)
		if err != nil {
			t.Fatal(err)
		}
		checkImports(t, name, file)
		checkLengths(t, fset, file)
	}
}

func checkImports(t *testing.T, name string, file *ast.File) {
	for _, i := range file.Imports {
		if path := strings.Trim(i.Path.Value, "\""); !strings.Contains(allowedImports, " "+path+" ") {
			t.Errorf("%s imports %s", name, path)
		}
	}
}

func checkLengths(t *testing.T, fset *token.FileSet, file *ast.File) {
	for _, d := range file.Decls {
		f, ok := d.(*ast.FuncDecl)
		if !ok {
			continue
		}
		if n := fset.Position(f.End()).Line - fset.Position(f.Pos()).Line + 1; n > longestFunction {
			t.Errorf("%s has %d lines", f.Name.Name, n)
		}
	}
}
