package tests

import (
	"bytes"
	"go/ast"
	"go/format"
	"go/parser"
	"go/token"
	"os"
	"path/filepath"
	"strconv"
	"strings"
	"testing"
)

// permitted are the packages that ../shared/LANGUAGE.md lets the program use.
const permitted = " bytes cmp container/heap errors iter maps math math/bits slices sort strconv strings sync sync/atomic unicode unicode/utf8 "

// mostLines is about how long ../shared/LANGUAGE.md lets a function be.
const mostLines = 60

// TestLanguage checks those rules of ../shared/LANGUAGE.md that need no judgement.
func TestLanguage(t *testing.T) {
	files, err := filepath.Glob("../impl/*")
	if err != nil || len(files) == 0 {
		t.Fatalf("no files: %v", err)
	}
	for _, name := range files {
		if !strings.HasSuffix(name, ".go") {
			t.Errorf("%s: not a Go file", name)
			continue
		}
		text, err := os.ReadFile(name)
		if err != nil {
			t.Fatal(err)
		}
		laid, err := format.Source(text)
		if err != nil || !bytes.Equal(laid, text) {
			t.Errorf("%s: not in gofmt's layout (%v)", name, err)
		}
		if bytes.Contains(text, []byte("//go:")) || bytes.Contains(text, []byte("// +build")) {
			t.Errorf("%s: has a directive", name)
		}
		checkFile(t, name, text)
	}
}

func checkFile(t *testing.T, name string, text []byte) {
	places := token.NewFileSet()
	file, err := parser.ParseFile(places, name, text, 0)
	if err != nil {
		t.Error(err)
		return
	}
	for _, i := range file.Imports {
		if path, _ := strconv.Unquote(i.Path.Value); !strings.Contains(permitted, " "+path+" ") {
			t.Errorf("%s: imports %s", name, path)
		}
	}
	for _, d := range file.Decls {
		f, ok := d.(*ast.FuncDecl)
		if !ok {
			continue
		}
		if long := places.Position(f.End()).Line - places.Position(f.Pos()).Line + 1; long > mostLines {
			t.Errorf("%s: %s has %d lines", name, f.Name.Name, long)
		}
	}
}
