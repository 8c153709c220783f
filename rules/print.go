package rules

import (
	"strconv"
	"strings"
	"unicode/utf8"

	"guise/api"
	"guise/scan"
)

const greatestClass = 65535 // of those that are written: no greater number is a word

// Print writes a table.
func Print(t api.Tables) (string, api.Errno) {
	var p printer
	p.scripts(t.Scripts)
	p.list("common", t.Common)
	p.marks(t.Marks)
	p.pairs(t.Pairs)
	p.maps("fold", t.Folds)
	p.maps("look", t.Looks)
	p.list("drop", t.Drops)
	p.list("allow", t.Allowed)
	switch {
	case p.wrong:
		return "", api.ErrForm
	case p.tooLong():
		return "", api.ErrLong
	}
	return p.text.String(), api.OK
}

// printer writes words. It looks at all rows, even when the text is too long, as a wrong one is told first.
type printer struct {
	text  strings.Builder
	begun bool // the line has words
	wrong bool // something can't be written
}

func (p *printer) tooLong() bool { return p.text.Len() > api.MaxRules }

// ended tells that no text will be answered: nothing more is written, as a table's text, or a name that is none, may be far longer than the limit.
func (p *printer) ended() bool { return p.wrong || p.tooLong() }

// put writes words, each with a space ahead unless it is its line's first.
func (p *printer) put(words ...string) {
	for _, w := range words {
		if p.ended() {
			return
		}
		if p.begun {
			p.text.WriteByte(' ')
		}
		p.text.WriteString(w)
		p.begun = true
	}
}

func (p *printer) endLine() {
	if !p.ended() {
		p.text.WriteByte('\n')
	}
	p.begun = false
}

// need tells that something can't be written, unless ok.
func (p *printer) need(ok bool) {
	if !ok {
		p.wrong = true
	}
}

func (p *printer) rune(r rune) {
	w, e := scan.Text(r)
	p.need(e == api.OK)
	p.put(w)
}

func (p *printer) scripts(l []api.Script) {
	for _, s := range l {
		p.need(scan.Legal(s.Name))
		p.put("script", s.Name)
		p.spans(s.Spans)
	}
}

// list writes the spans of a list that has one line.
func (p *printer) list(word string, l []api.Span) {
	if len(l) > 0 {
		p.put(word)
		p.spans(l)
	}
}

// spans writes spans between { and }, which end their line.
func (p *printer) spans(l []api.Span) {
	p.put("{")
	for _, s := range l {
		p.rune(s.Lo)
		if s.Hi != s.Lo {
			p.put("..")
			p.rune(s.Hi)
		}
	}
	p.put("}")
	p.endLine()
}

func (p *printer) marks(l []api.Mark) {
	for _, m := range l {
		p.need(0 <= m.Class && m.Class <= greatestClass)
		p.put("mark")
		p.rune(m.Rune)
		p.put(strconv.Itoa(m.Class), ";")
		p.endLine()
	}
}

func (p *printer) pairs(l []api.Pair) {
	for _, x := range l {
		p.put("pair")
		p.rune(x.Whole)
		p.put("=")
		p.rune(x.Base)
		p.put("+")
		p.rune(x.Mark)
		p.put(";")
		p.endLine()
	}
}

func (p *printer) maps(word string, l []api.Map) {
	for _, m := range l {
		p.need(m.To != "" && utf8.ValidString(m.To))
		p.put(word)
		p.rune(m.From)
		p.put("=")
		for _, r := range m.To {
			p.rune(r)
		}
		p.put(";")
		p.endLine()
	}
}
