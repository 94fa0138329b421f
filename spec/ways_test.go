package spec_test

import (
	"go/ast"
	"go/parser"
	"go/token"
	"os"
	"strings"
	"testing"
)

// sources returns the files of the package.
func sources(t *testing.T) []*ast.File {
	t.Helper()
	entries, err := os.ReadDir(".")
	if err != nil {
		t.Fatal(err)
	}
	var files []*ast.File
	for _, entry := range entries {
		if !strings.HasSuffix(entry.Name(), ".go") || strings.HasSuffix(entry.Name(), "_test.go") {
			continue
		}
		file, err := parser.ParseFile(token.NewFileSet(), entry.Name(), nil, 0)
		if err != nil {
			t.Fatal(err)
		}
		files = append(files, file)
	}
	return files
}

// calls reports whether a function of the language is called somewhere in a part of a program.
func calls(part ast.Node, name string) bool {
	found := false
	ast.Inspect(part, func(n ast.Node) bool {
		if call, ok := n.(*ast.CallExpr); ok {
			if f, ok := call.Fun.(*ast.Ident); ok && f.Name == name {
				found = true
			}
		}
		return true
	})
	return found
}

// P14.2, the section 'Ways': a text that cannot be read is reported by panic, and recovered in a deferred function.
func TestTextsThatCannotBeReadPanicInside(t *testing.T) {
	panics, recovers := false, false
	for _, file := range sources(t) {
		panics = panics || calls(file, "panic")
		ast.Inspect(file, func(n ast.Node) bool {
			if d, ok := n.(*ast.DeferStmt); ok {
				f, isLiteral := d.Call.Fun.(*ast.FuncLit)
				recovers = recovers || isLiteral && calls(f.Body, "recover")
			}
			return true
		})
	}
	if !panics || !recovers {
		t.Errorf("panic is called: %t; a deferred function literal recovers: %t", panics, recovers)
	}
}
