package plays

import (
	"go/parser"
	"go/token"
	"path/filepath"
	"slices"
	"strconv"
	"strings"
	"testing"
)

// layers are the packages of the program; what else there is of it they, or their tests, import.
func layers() []string {
	return strings.Fields(`api octets turn cell once seq ring queue stack epoch hold tally bucket meter gauge prefix
		packet flow trie rule lang conf plan mirror board lane crew audit sim link fabric roll desk`)
}

// mayBeImported tells whether the program may use that package of the library.
func mayBeImported(path string) bool {
	return slices.Contains(strings.Fields(`bytes cmp container/heap errors iter maps math math/bits slices sort
		strconv strings sync sync/atomic unicode unicode/utf8`), path)
}

// importsOf answers what a file imports, and ends the test where it can't be read.
func importsOf(t *testing.T, file string) []string {
	t.Helper()
	tree, err := parser.ParseFile(token.NewFileSet(), file, nil, parser.ImportsOnly)
	if err != nil {
		t.Fatal(err)
	}
	var paths []string
	for _, x := range tree.Imports {
		path, err := strconv.Unquote(x.Path.Value)
		if err != nil {
			t.Fatal(err)
		}
		paths = append(paths, path)
	}
	return paths
}

// TestImports: no file but test files imports what the program may not use, in packages that tests alone import, too.
func TestImports(t *testing.T) {
	seen := map[string]bool{}
	for work := layers(); len(work) > 0; work = work[1:] {
		if seen[work[0]] {
			continue
		}
		seen[work[0]] = true
		files, err := filepath.Glob(filepath.Join("..", work[0], "*.go"))
		if len(files) == 0 || err != nil {
			t.Errorf("package %s: no files, %v", work[0], err)
		}
		for _, file := range files {
			for _, path := range importsOf(t, file) {
				if own, ok := strings.CutPrefix(path, "patchbay/"); ok {
					work = append(work, own)
				} else if !strings.HasSuffix(file, "_test.go") && !mayBeImported(path) {
					t.Errorf("%s imports %s", file, path)
				}
			}
		}
	}
	if !seen["gates"] || !seen["plays"] {
		t.Errorf("only these packages were seen: %v", seen)
	}
}
