// Package layers has no program: its test holds the imports of the others against the table of layers and the language's rules.
package layers

import (
	"go/parser"
	"go/token"
	"os"
	"path/filepath"
	"slices"
	"strings"
	"testing"
)

const table = "api addr metric trie wire frame aspath attr nlri update open intern session policy adjin igp nexthop decide ecmp spec locrib export adjout pack ortc fib download engine shell"

const library = "bytes cmp container/heap errors iter maps math math/bits slices sort strconv strings sync sync/atomic unicode unicode/utf8"

// beside are the packages that are no layers, and the highest layer that each may call.
var beside = map[string]string{"conf": "api", "shelf": "trie", "forward": "ecmp"}

func place(name string) int {
	if top, is := beside[name]; is {
		name = top
	}
	return slices.Index(strings.Fields(table), name)
}

func TestImports(t *testing.T) {
	files, err := filepath.Glob("../*/*.go")
	if err != nil || len(files) < 28 {
		t.Fatal(err, len(files))
	}
	for _, f := range files {
		pack := filepath.Base(filepath.Dir(f))
		if strings.HasSuffix(f, "_test.go") || place(pack) < 0 {
			continue
		}
		src, err := os.ReadFile(f)
		if err != nil {
			t.Fatal(err)
		}
		a, err := parser.ParseFile(token.NewFileSet(), f, src, parser.ImportsOnly)
		if err != nil {
			t.Fatal(err)
		}
		for _, i := range a.Imports {
			path := strings.Trim(i.Path.Value, `"`)
			lower, own := strings.CutPrefix(path, "signpost/")
			_, helps := beside[lower]
			_, help := beside[pack]
			switch {
			case i.Name != nil, !own && !slices.Contains(strings.Fields(library), path):
				t.Errorf("%s: %s", f, path)
			case own && (place(lower) < 0 || place(lower) > place(pack) || place(lower) == place(pack) && !help && !helps):
				t.Errorf("%s: %s is no lower layer", f, path)
			}
		}
	}
}
