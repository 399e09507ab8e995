package tests

import (
	"bytes"
	"go/ast"
	"go/format"
	"go/parser"
	"go/token"
	"os"
	"path/filepath"
	"slices"
	"strconv"
	"strings"
	"testing"
)

const allowedImports = " bytes cmp container/heap errors iter maps math math/big math/bits slices sort strconv strings sync sync/atomic unicode unicode/utf8 "

// The language page, as far as the text of the program shows it.
func TestLanguage(t *testing.T) {
	paths, err := filepath.Glob("../impl/*.go")
	if err != nil || len(paths) == 0 {
		t.Fatal("no program", err)
	}
	for _, path := range paths {
		if strings.HasSuffix(path, "_test.go") {
			continue
		}
		text, err := os.ReadFile(path)
		if err != nil {
			t.Fatal(err)
		}
		checkFile(t, path, text)
	}
}

func checkFile(t *testing.T, path string, text []byte) {
	laidOut, err := format.Source(text)
	if err != nil || !bytes.Equal(laidOut, text) {
		t.Errorf("%s: not in gofmt's layout (%v)", path, err)
	}
	if bytes.Contains(text, []byte("//go:")) || bytes.Contains(text, []byte("// +build")) {
		t.Errorf("%s: a line for the tools", path)
	}
	set := token.NewFileSet()
	file, err := parser.ParseFile(set, path, text, 0)
	if err != nil {
		t.Fatal(err)
	}
	for _, spec := range file.Imports {
		name, _ := strconv.Unquote(spec.Path.Value)
		if !strings.Contains(allowedImports, " "+name+" ") {
			t.Errorf("%s imports %s", path, name)
		}
	}
	for _, decl := range file.Decls {
		f, ok := decl.(*ast.FuncDecl)
		if ok && set.Position(f.End()).Line-set.Position(f.Pos()).Line >= 60 {
			t.Errorf("%s: %s is too long", path, f.Name.Name)
		}
	}
}

// namesIn is, of each function of the program, the names that it speaks of.
func namesIn(t *testing.T) map[string][]string {
	names := map[string][]string{}
	paths, _ := filepath.Glob("../impl/l*.go")
	for _, path := range paths {
		file, err := parser.ParseFile(token.NewFileSet(), path, nil, 0)
		if err != nil {
			t.Fatal(err)
		}
		for _, decl := range file.Decls {
			if f, ok := decl.(*ast.FuncDecl); ok {
				ast.Inspect(f.Body, func(n ast.Node) bool {
					if id, ok := n.(*ast.Ident); ok {
						names[f.Name.Name] = append(names[f.Name.Name], id.Name)
					}
					return true
				})
			}
		}
	}
	return names
}

// The table that init fills is read by one exported function; all others answer without it, by whatever they call.
func TestReadersOfTheTable(t *testing.T) {
	names := namesIn(t)
	if !slices.Contains(names["init"], "formats") {
		t.Error("init does not fill the table")
	}
	reached := []string{"formats"}
	for at := 0; at < len(reached); at++ {
		for f, spoken := range names {
			if slices.Contains(spoken, reached[at]) && !slices.Contains(reached, f) {
				reached = append(reached, f)
			}
		}
	}
	slices.Sort(reached)
	if !slices.Equal(reached, []string{"BitKindOf", "formats", "init"}) {
		t.Errorf("the table is reached by %v", reached)
	}
}

// The project has three folders: a submission with another one is not what was asked for.
func TestFolders(t *testing.T) {
	entries, err := os.ReadDir("..")
	if err != nil {
		t.Fatal(err)
	}
	for _, e := range entries {
		// .git and sharedtests stand in the copy that .ci/run makes, not in the project.
		if e.IsDir() && !strings.Contains(" impl tests .ci .git sharedtests ", " "+e.Name()+" ") {
			t.Errorf("a folder %s", e.Name())
		}
	}
}
