package rules

import (
	"go/ast"
	"go/token"
	"slices"
	"testing"
)

// The layers that are built, with the ways that the section 'Ways' of their chapters asks for.
var ways = map[string][]string{
	"crc":    {"goto"},
	"pack":   {"goto"},
	"disk":   {"goto"},
	"wal":    {"goto"},
	"place":  {"complex", "goto"},
	"ballot": {"goto", "struct-compared"},
	"cmd":    {"goto", "iota"},
	"deps":   {"goto"},
	"attr":   {"goto"},
	"inst":   {"goto", "iota"},
}

// has tells of each way whether a piece of the program is one of it.
var has = map[string]func(n ast.Node) bool{
	// Not the type alone, which a call that answers nothing has too.
	"complex": func(n ast.Node) bool {
		if l, ok := n.(*ast.BasicLit); ok {
			return l.Kind == token.IMAG
		}
		c, ok := n.(*ast.CallExpr)
		if !ok {
			return false
		}
		f, ok := c.Fun.(*ast.Ident)
		return ok && slices.Contains([]string{"complex", "real", "imag"}, f.Name)
	},
	"goto": func(n ast.Node) bool {
		b, ok := n.(*ast.BranchStmt)
		return ok && b.Tok == token.GOTO
	},
	"iota": func(n ast.Node) bool {
		i, ok := n.(*ast.Ident)
		return ok && i.Name == "iota"
	},
	// By a literal of a named type alone, as the text does not show what a variable is.
	"struct-compared": func(n ast.Node) bool {
		b, ok := n.(*ast.BinaryExpr)
		return ok && (b.Op == token.EQL || b.Op == token.NEQ) && (isNamedLiteral(b.X) || isNamedLiteral(b.Y))
	},
}

func isNamedLiteral(e ast.Expr) bool {
	l, ok := ast.Unparen(e).(*ast.CompositeLit)
	if !ok {
		return false
	}
	switch l.Type.(type) {
	case *ast.Ident, *ast.SelectorExpr:
		return true
	}
	return false
}

// TestWays: each layer has the ways in it that its chapter asks for.
func TestWays(t *testing.T) {
	found := map[string]map[string]bool{}
	for _, s := range sources(t) {
		if found[s.pack] == nil {
			found[s.pack] = map[string]bool{}
		}
		ast.Inspect(s.file, func(n ast.Node) bool {
			for way, is := range has {
				if is(n) {
					found[s.pack][way] = true
				}
			}
			return true
		})
	}
	for pack, l := range ways {
		for _, way := range l {
			if !found[pack][way] {
				t.Errorf("%s has no %s", pack, way)
			}
		}
	}
}
