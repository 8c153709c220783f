package rules_test

import (
	"math/rand"
	"regexp"
	"slices"
	"strconv"
	"strings"
	"testing"

	"guise/api"
	"guise/rules"
	"guise/scan"
)

// What the chapter says of rules, once more and in another way: each word is a letter, the language is a pattern of letters, and the first word that may not stand where it does is sought by trying whether any tail makes a right text.

var letters = map[string]string{"script": "S", "common": "C", "mark": "M", "pair": "P", "fold": "F", "look": "L", "drop": "D", "allow": "A"}

var signs = map[int]string{scan.Number: "9", scan.Rune: "R", scan.Open: "{", scan.Shut: "}", scan.Semi: ";", scan.Assign: "=", scan.Plus: "+", scan.Dots: "."}

const (
	spansPattern = `\{(?:R(?:\.R)?)*\}`
	rulePattern  = `(?:S[SCMPFLDAN]` + spansPattern + `|[CDA]` + spansPattern + `|MR9;|PR=R\+R;|[FL]R=R+;)`
)

var (
	oneRule  = regexp.MustCompile(rulePattern)
	allRules = regexp.MustCompile(`^` + rulePattern + `*$`)
	oneSpan  = regexp.MustCompile(`R(?:\.R)?`)
)

// tails holds, for every beginning of a right text, one that makes a right text of it.
var tails = []string{"", ";", "}", "R;", "R}", "9;", "R9;", "=R;", "R=R;", "+R;", "R+R;", "=R+R;", "R=R+R;", "{}", "N{}"}

func lettersOf(words []scan.Word) string {
	var b strings.Builder
	for _, w := range words {
		switch letter, known := letters[w.S]; {
		case w.Kind != scan.Name:
			b.WriteString(signs[w.Kind])
		case known:
			b.WriteString(letter)
		default:
			b.WriteString("N")
		}
	}
	return b.String()
}

func viable(s string) bool {
	return slices.ContainsFunc(tails, func(tail string) bool { return allRules.MatchString(s + tail) })
}

// wanted is what Parse must answer: a table and where its rows stand, or a refusal.
type wanted struct {
	table   api.Tables
	rows    map[int][]api.At // by list
	end     api.At
	refusal *rules.Refusal
}

func wantParse(src string) wanted {
	end := scan.Where(src, len(src))
	words, at, why := scan.Words(src)
	if why != api.OK {
		return wanted{refusal: &rules.Refusal{At: at, Why: why}}
	}
	s := lettersOf(words)
	if allRules.MatchString(s) {
		return wantRules(words, s, end)
	}
	for i, w := range words {
		if !viable(s[:i+1]) {
			return wanted{refusal: &rules.Refusal{At: w.At, Why: api.ErrForm}}
		}
	}
	return wanted{refusal: &rules.Refusal{At: end, Why: api.ErrEnd}}
}

func wantRules(words []scan.Word, s string, end api.At) wanted {
	x := wanted{rows: map[int][]api.At{}, end: end}
	for _, m := range oneRule.FindAllStringIndex(s, -1) {
		x.add(words[m[0]:m[1]], s[m[0]:m[1]])
	}
	return x
}

// add reads one rule, the letters of whose words are s.
func (x *wanted) add(words []scan.Word, s string) {
	var runes []rune
	for _, w := range words {
		if w.Kind == scan.Rune {
			runes = append(runes, w.R)
		}
	}
	t, first := &x.table, words[0].At
	switch s[0] {
	case 'S':
		spans, _ := wantSpans(words[2:], s[2:])
		t.Scripts = append(t.Scripts, api.Script{Name: words[1].S, Spans: spans})
		x.rows[api.LScripts] = append(x.rows[api.LScripts], first)
	case 'M':
		t.Marks = append(t.Marks, api.Mark{Rune: runes[0], Class: words[2].N})
		x.rows[api.LMarks] = append(x.rows[api.LMarks], first)
	case 'P':
		t.Pairs = append(t.Pairs, api.Pair{Whole: runes[0], Base: runes[1], Mark: runes[2]})
		x.rows[api.LPairs] = append(x.rows[api.LPairs], first)
	case 'F':
		t.Folds = append(t.Folds, api.Map{From: runes[0], To: string(runes[1:])})
		x.rows[api.LFolds] = append(x.rows[api.LFolds], first)
	case 'L':
		t.Looks = append(t.Looks, api.Map{From: runes[0], To: string(runes[1:])})
		x.rows[api.LLooks] = append(x.rows[api.LLooks], first)
	default:
		list := map[byte]int{'C': api.LCommon, 'D': api.LDrops, 'A': api.LAllowed}[s[0]]
		into := map[byte]*[]api.Span{'C': &t.Common, 'D': &t.Drops, 'A': &t.Allowed}[s[0]]
		spans, places := wantSpans(words, s)
		*into = append(*into, spans...)
		x.rows[list] = append(x.rows[list], places...)
	}
}

func wantSpans(words []scan.Word, s string) (spans []api.Span, places []api.At) {
	for _, m := range oneSpan.FindAllStringIndex(s, -1) {
		spans = append(spans, api.Span{Lo: words[m[0]].R, Hi: words[m[1]-1].R})
		places = append(places, words[m[0]].At)
	}
	return spans, places
}

// same tells whether two tables are one; nil and empty lists are.
func same(t, u api.Tables) bool {
	return slices.EqualFunc(t.Scripts, u.Scripts, func(a, b api.Script) bool { return a.Name == b.Name && slices.Equal(a.Spans, b.Spans) }) &&
		slices.Equal(t.Common, u.Common) && slices.Equal(t.Marks, u.Marks) && slices.Equal(t.Pairs, u.Pairs) && slices.Equal(t.Folds, u.Folds) &&
		slices.Equal(t.Looks, u.Looks) && slices.Equal(t.Drops, u.Drops) && slices.Equal(t.Allowed, u.Allowed)
}

func at(b, line, column int) api.At { return api.At{Byte: b, Line: line, Column: column} }

func parse(t *testing.T, src string) *rules.Text {
	t.Helper()
	x, err := rules.Parse(src)
	if x == nil || err != nil {
		t.Fatalf("%.200q: %v, %v", src, x, err)
	}
	return x
}

// oddRunes are runes that are written in all ways, and those at edges.
var oddRunes = []rune{0, '\n', 0x1f, ' ', '!', '"', '#', '\'', '+', '.', ';', '=', 'A', 'a', 'z', '{', '}', '~', 0x7f, 0x80, 0xe9, 0x301, 0x7ff, 0x20ac, 0xd7ff, 0xe000, 0xfffd, 0xffff, 0x10000, 0x1f600, 0xd8000, 0x10ffff}

func oddRune(rnd *rand.Rand) rune { return oddRunes[rnd.Intn(len(oddRunes))] }

// spelt writes a rune in one of its spellings.
func spelt(rnd *rand.Rand, r rune) string {
	if rnd.Intn(2) == 0 && r >= ' ' && r != '\'' && r != 0x7f {
		return "'" + string(r) + "'"
	}
	s, _ := scan.Text(r)
	return s
}

var gaps = []string{" ", "  ", "\n", "\t", "\r\n", " # a remark: script x {\n", "#\u00e9\n\n", "#\n"}

// laid lays words one behind the other, with gaps where they need them, and sometimes where they don't.
func laid(rnd *rand.Rand, words []string) string {
	sticks := regexp.MustCompile(`[A-Za-z0-9-]`)
	var b strings.Builder
	last := ""
	for _, w := range words {
		need := last != "" && sticks.MatchString(last[len(last)-1:]) && sticks.MatchString(w[:1])
		if need || rnd.Intn(2) == 0 {
			b.WriteString(gaps[rnd.Intn(len(gaps))])
		}
		b.WriteString(w)
		last = w
	}
	return b.String()
}

var ruleWords = []string{"script", "common", "mark", "pair", "fold", "look", "drop", "allow"}

var scriptNames = []string{"a", "latin", "script", "mark", "x-9-", "z" + strings.Repeat("9", 31)}

// rightRule writes a rule of that word.
func rightRule(rnd *rand.Rand, word string) []string {
	one := func() string { return spelt(rnd, oddRune(rnd)) }
	switch word {
	case "mark":
		class := []int{0, 1, 230, 254, 255, 65535, rnd.Intn(65536)}[rnd.Intn(7)]
		return []string{word, one(), strconv.Itoa(class), ";"}
	case "pair":
		return []string{word, one(), "=", one(), "+", one(), ";"}
	case "fold", "look":
		l := []string{word, one(), "=", one()}
		for range rnd.Intn(6) {
			l = append(l, one())
		}
		return append(l, ";")
	}
	l := []string{word}
	if word == "script" {
		l = append(l, scriptNames[rnd.Intn(len(scriptNames))])
	}
	l = append(l, "{")
	for range rnd.Intn(5) {
		if l = append(l, one()); rnd.Intn(2) == 0 {
			l = append(l, "..", one())
		}
	}
	return append(l, "}")
}

// rightWords writes n rules, a list of words each.
func rightWords(rnd *rand.Rand, n int) [][]string {
	var l [][]string
	for range n {
		l = append(l, rightRule(rnd, ruleWords[rnd.Intn(len(ruleWords))]))
	}
	return l
}

func rightText(rnd *rand.Rand, n int) string {
	return laid(rnd, slices.Concat(rightWords(rnd, n)...))
}
