package rules

import (
	"strings"

	"guise/api"
	"guise/scan"
)

// reader goes through the words of a text. Once it has refused one it takes and sees none any more, so what reads a rule goes on to its end and need not ask.
type reader struct {
	rest    []scan.Word
	text    *Text
	refusal *Refusal
}

// readers are what reads the rules, by their first words. Each is handed the place of that word, behind which the reader stands.
func readers() map[string]func(*reader, api.At) {
	return map[string]func(*reader, api.At){
		"script": (*reader).script,
		"common": (*reader).common,
		"mark":   (*reader).mark,
		"pair":   (*reader).pair,
		"fold":   (*reader).fold,
		"look":   (*reader).look,
		"drop":   (*reader).drop,
		"allow":  (*reader).allow,
	}
}

func (r *reader) rules() {
	byWord := readers()
	for len(r.rest) > 0 && r.refusal == nil {
		// Words that are no names have no S, and no rule begins with that.
		read, known := byWord[r.rest[0].S]
		if !known {
			r.refuse()
			return
		}
		read(r, r.take(scan.Name).At)
	}
}

func (r *reader) script(first api.At) {
	// The words are pieces of the text that was handed in, which is not kept.
	name := strings.Clone(r.take(scan.Name).S)
	spans, _ := r.spans()
	r.text.tables.Scripts = append(r.text.tables.Scripts, api.Script{Name: name, Spans: spans})
	r.rows(api.LScripts, first)
}

func (r *reader) common(api.At) {
	spans, places := r.spans()
	r.text.tables.Common = append(r.text.tables.Common, spans...)
	r.rows(api.LCommon, places...)
}

func (r *reader) drop(api.At) {
	spans, places := r.spans()
	r.text.tables.Drops = append(r.text.tables.Drops, spans...)
	r.rows(api.LDrops, places...)
}

func (r *reader) allow(api.At) {
	spans, places := r.spans()
	r.text.tables.Allowed = append(r.text.tables.Allowed, spans...)
	r.rows(api.LAllowed, places...)
}

func (r *reader) mark(first api.At) {
	on := r.take(scan.Rune).R
	class := r.take(scan.Number).N
	r.take(scan.Semi)
	r.text.tables.Marks = append(r.text.tables.Marks, api.Mark{Rune: on, Class: class})
	r.rows(api.LMarks, first)
}

func (r *reader) pair(first api.At) {
	whole := r.take(scan.Rune).R
	r.take(scan.Assign)
	base := r.take(scan.Rune).R
	r.take(scan.Plus)
	mark := r.take(scan.Rune).R
	r.take(scan.Semi)
	r.text.tables.Pairs = append(r.text.tables.Pairs, api.Pair{Whole: whole, Base: base, Mark: mark})
	r.rows(api.LPairs, first)
}

func (r *reader) fold(first api.At) {
	r.text.tables.Folds = append(r.text.tables.Folds, r.mapping())
	r.rows(api.LFolds, first)
}

func (r *reader) look(first api.At) {
	r.text.tables.Looks = append(r.text.tables.Looks, r.mapping())
	r.rows(api.LLooks, first)
}

// mapping reads what stands behind the first word of a fold or a look.
func (r *reader) mapping() api.Map {
	from := r.take(scan.Rune).R
	r.take(scan.Assign)
	to := []rune{r.take(scan.Rune).R}
	for r.sees(scan.Rune) {
		to = append(to, r.take(scan.Rune).R)
	}
	r.take(scan.Semi)
	return api.Map{From: from, To: string(to)}
}

// spans reads spans between { and }, and tells where each of them stands.
func (r *reader) spans() ([]api.Span, []api.At) {
	var spans []api.Span
	var places []api.At
	r.take(scan.Open)
	for r.sees(scan.Rune) {
		places = append(places, r.rest[0].At)
		spans = append(spans, r.span())
	}
	r.take(scan.Shut)
	return spans, places
}

func (r *reader) span() api.Span {
	lo := r.take(scan.Rune).R
	if !r.sees(scan.Dots) {
		return api.Span{Lo: lo, Hi: lo}
	}
	r.take(scan.Dots)
	return api.Span{Lo: lo, Hi: r.take(scan.Rune).R}
}

// rows lays the places of rows behind those of their list.
func (r *reader) rows(list int, places ...api.At) {
	r.text.rows[list] = append(r.text.rows[list], places...)
}

// sees tells whether the next word is of that kind.
func (r *reader) sees(kind int) bool {
	return r.refusal == nil && len(r.rest) > 0 && r.rest[0].Kind == kind
}

// take goes over the next word, if it is of that kind, and refuses it, if it isn't.
func (r *reader) take(kind int) scan.Word {
	if !r.sees(kind) {
		r.refuse()
		return scan.Word{}
	}
	w := r.rest[0]
	r.rest = r.rest[1:]
	return w
}

// refuse refuses the next word, or the end, where no word is left. As nothing is taken behind a refusal, a later one tells the same.
func (r *reader) refuse() {
	r.refusal = &Refusal{At: r.text.end, Why: api.ErrEnd}
	if len(r.rest) > 0 {
		r.refusal = &Refusal{At: r.rest[0].At, Why: api.ErrForm}
	}
}
