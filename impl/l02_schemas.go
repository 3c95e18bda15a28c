package impl

import (
	"strconv"
	"strings"
)

const (
	MaxTypes = 40
	MaxDepth = 6

	TyUint   = 1
	TyBool   = 2
	TyBytes  = 3
	TyFixed  = 4
	TyList   = 5
	TyVector = 6
	TyStruct = 7
	TyOption = 8
	TyUnion  = 9
)

type Typ struct {
	Kind int64
	N    int64
}

// kindRow tells of a kind its word, whether N stands behind that, and N's ends.
type kindRow struct {
	kind     int64
	word     string
	numbered bool
	least    int64
	most     int64
}

var kindRows = [9]kindRow{
	{TyUint, "u", true, 8, 64},
	{TyBool, "bool", false, 0, 0},
	{TyBytes, "bytes", true, 0, 200},
	{TyFixed, "fixed", true, 1, 64},
	{TyList, "list", true, 1, 20},
	{TyVector, "vector", true, 1, 8},
	{TyStruct, "struct", true, 1, 6},
	{TyOption, "option", false, 0, 0},
	{TyUnion, "union", true, 1, 4},
}

// typeNode is a type of a schema: its place, the place behind it, how deep it
// lies, and what it is of.
type typeNode struct {
	typ   Typ
	at    int64
	end   int64
	depth int64
	parts []*typeNode
}

// typOk tells whether t's N is one of its kind.
func typOk(t Typ) bool {
	if t.Kind == TyUint {
		return t.N == 8 || t.N == 16 || t.N == 32 || t.N == 64
	}
	for _, row := range kindRows {
		if row.kind == t.Kind {
			return row.least <= t.N && t.N <= row.most
		}
	}
	return false
}

// partsOf tells how many types stand behind t.
func partsOf(t Typ) int64 {
	switch t.Kind {
	case TyList, TyVector, TyOption:
		return 1
	case TyStruct, TyUnion:
		return t.N
	}
	return 0
}

// parseSchema answers the tree of s, nil when s is no schema.
func parseSchema(s []Typ) *typeNode {
	if len(s) > MaxTypes {
		return nil
	}
	root := parseType(s, 0, 0)
	if root == nil || root.end != int64(len(s)) {
		return nil
	}
	return root
}

// parseType answers the tree of the type at a place, nil when there is none.
func parseType(s []Typ, at int64, depth int64) *typeNode {
	if at >= int64(len(s)) || depth > MaxDepth || !typOk(s[at]) {
		return nil
	}
	node := &typeNode{typ: s[at], at: at, end: at + 1, depth: depth}
	for range partsOf(s[at]) {
		part := parseType(s, node.end, depth+1)
		if part == nil {
			return nil
		}
		node.parts = append(node.parts, part)
		node.end = part.end
	}
	return node
}

// find answers the type that begins at a place, nil when none of node does.
func (node *typeNode) find(at int64) *typeNode {
	if node.at == at {
		return node
	}
	for _, part := range node.parts {
		if found := part.find(at); found != nil {
			return found
		}
	}
	return nil
}

// deepest tells how deep the deepest type of node lies.
func (node *typeNode) deepest() int64 {
	most := node.depth
	for _, part := range node.parts {
		most = max(most, part.deepest())
	}
	return most
}

func typText(t Typ) string {
	for _, row := range kindRows {
		if row.kind != t.Kind {
			continue
		}
		if row.numbered {
			return row.word + strconv.FormatInt(t.N, 10)
		}
		return row.word
	}
	return ""
}

// readTyp answers the Typ whose text word is; its N may still be none of its
// kind.
func readTyp(word string) (Typ, bool) {
	for _, row := range kindRows {
		rest, ok := strings.CutPrefix(word, row.word)
		if !ok {
			continue
		}
		if !row.numbered && rest == "" {
			return Typ{Kind: row.kind}, true
		}
		// No return where rest is no number: u begins union, too.
		n, ok := readDecimal(rest)
		if row.numbered && ok {
			return Typ{Kind: row.kind, N: n}, true
		}
	}
	return Typ{}, false
}

// maxDigits is how many digits a number in decimal has at most.
const maxDigits = 16

// readDecimal holds what it read, written again, against s, as a nought ahead
// or a sign too many is taken by strconv.
func readDecimal(s string) (int64, bool) {
	if len(strings.TrimPrefix(s, "-")) > maxDigits {
		return 0, false
	}
	n, err := strconv.ParseInt(s, 10, 64)
	if err != nil || strconv.FormatInt(n, 10) != s {
		return 0, false
	}
	return n, true
}

func SchemaOk(s []Typ) bool {
	return parseSchema(s) != nil
}

func SchemaText(s []Typ) string {
	if !SchemaOk(s) {
		return ""
	}
	var words []string
	for _, t := range s {
		words = append(words, typText(t))
	}
	return strings.Join(words, " ")
}

func ReadSchema(s string) ([]Typ, bool) {
	var list []Typ
	// One word more than a schema has is enough to refuse a longer text.
	for _, word := range strings.SplitN(s, " ", MaxTypes+1) {
		t, ok := readTyp(word)
		if !ok {
			return nil, false
		}
		list = append(list, t)
	}
	if !SchemaOk(list) {
		return nil, false
	}
	return list, true
}

func EndOf(s []Typ, at int64) int64 {
	root := parseSchema(s)
	if root == nil {
		return -1
	}
	node := root.find(at)
	if node == nil {
		return -1
	}
	return node.end
}

func DepthOf(s []Typ) int64 {
	root := parseSchema(s)
	if root == nil {
		return -1
	}
	return root.deepest()
}
