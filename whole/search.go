package whole

import (
	"slices"

	"guise/api"
	"guise/look"
	"guise/tables"
	"guise/utf"
)

// seenOf tells the runes of a text's skeleton.
func seenOf(b *tables.Book, s string) ([]rune, api.Errno) {
	switch {
	case b == nil:
		return nil, api.ErrArg
	case len(s) > api.MaxText:
		return nil, api.ErrLong
	}
	seen := utf.Runes(look.Skeleton(b, s))
	if len(seen) > Most {
		return nil, api.ErrLong
	}
	return seen, api.OK
}

// seenFor tells them to one who asks for a script.
func seenFor(b *tables.Book, s string, n int) ([]rune, api.Errno) {
	if b == nil || n < 0 || n >= len(b.Names()) {
		return nil, api.ErrArg
	}
	return seenOf(b, s)
}

// findBut tells what is found in all scripts but some.
func findBut(b *tables.Book, s string, but []int) ([]Other, api.Errno) {
	seen, e := seenOf(b, s)
	if e != api.OK {
		return nil, e
	}
	all := letters(b, seen)
	var l []Other
	for n := range b.Names() {
		if slices.Contains(but, n) {
			continue
		}
		if text, ok := find(steps(all, n, seen)); ok {
			l = append(l, Other{Script: n, Text: text})
		}
	}
	return l, api.OK
}

// step is a letter whose piece stands at some place of a skeleton, and the place behind the piece.
type step struct {
	letter rune
	to     int
}

// steps tells what a script's letters can cover from each place of a skeleton on: of letters with one piece the least.
func steps(all []letter, n int, seen []rune) [][]step {
	t := treeOf(all, n)
	l := make([][]step, len(seen))
places:
	for at := range seen {
		node := root
		for to, r := range seen[at:] {
			next, grows := t.next[branch{node, r}]
			if !grows {
				continue places
			}
			node = next
			if least := t.least[node]; least != none {
				l[at] = append(l[at], step{letter: least, to: at + to + 1})
			}
		}
	}
	return l
}

// reach tells the last place to which steps lead.
func reach(l [][]step) int {
	reached := make([]bool, len(l)+1)
	reached[0] = true
	last := 0
	for at, from := range l {
		if !reached[at] {
			continue
		}
		for _, x := range from {
			reached[x.to] = true
			last = max(last, x.to)
		}
	}
	return last
}

// never is more letters than any way to the end takes.
const never = Most + 1

// way is the best way from a place to the end: of the fewest letters, and of such the one whose first letter is the least.
// Ways with one first letter go on from one place, since a letter has one piece: so the least text begins with the least letter.
type way struct {
	letters int
	first   step
}

func (w way) better(v way) bool {
	return w.letters < v.letters || w.letters == v.letters && w.first.letter < v.first.letter
}

// find tells the text of the best way from the beginning, if there is one.
func find(l [][]step) (string, bool) {
	ways := make([]way, len(l)+1)
	for at, from := range slices.Backward(l) {
		ways[at].letters = never
		for _, x := range from {
			if w := (way{letters: ways[x.to].letters + 1, first: x}); w.better(ways[at]) {
				ways[at] = w
			}
		}
	}
	if ways[0].letters == never {
		return "", false
	}
	var text []rune
	for at := 0; at < len(l); at = ways[at].first.to {
		text = append(text, ways[at].first.letter)
	}
	return string(text), true
}
