package whole

import (
	"slices"

	"guise/tables"
	"guise/utf"
)

// letter is what a search asks of one.
type letter struct {
	rune    rune
	piece   []rune
	common  bool
	scripts []int
}

func (x letter) isOf(n int) bool { return x.common || slices.Contains(x.scripts, n) }

// letters tells those whose pieces can stand in a skeleton, by their numbers.
// A letter that is no From is its own piece, so of those only the skeleton's own runes can.
func letters(b *tables.Book, seen []rune) []letter {
	some := append(b.Froms(), seen...)
	slices.Sort(some)
	var l []letter
	for _, r := range slices.Compact(some) {
		if piece, ok := Piece(b, r); ok {
			l = append(l, letter{rune: r, piece: utf.Runes(piece), common: b.Common(r), scripts: b.Scripts(r)})
		}
	}
	return l
}

const (
	root = 0
	none = -1 // no letter
)

// branch is where a tree grows: from a node, by a rune.
type branch struct {
	node int
	rune rune
}

// tree keeps a script's letters by their pieces: what pieces begin with alike they have in common, so that a search walks all that stand at a place at once.
type tree struct {
	next  map[branch]int
	least []rune // by node: of the letters whose piece ends there the least
}

// treeOf makes the tree of a script's letters, which come by their numbers.
func treeOf(all []letter, n int) *tree {
	t := &tree{next: map[branch]int{}, least: []rune{none}}
	for _, x := range all {
		if x.isOf(n) {
			t.put(x)
		}
	}
	return t
}

func (t *tree) put(x letter) {
	node := root
	for _, r := range x.piece {
		from := branch{node, r}
		next, grows := t.next[from]
		if !grows {
			next = len(t.least)
			t.next[from] = next
			t.least = append(t.least, none)
		}
		node = next
	}
	if t.least[node] == none {
		t.least[node] = x.rune
	}
}
