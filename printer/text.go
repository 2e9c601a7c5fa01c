package printer

import (
	"strings"

	"lispprover/api"
	"lispprover/object"
)

// printing is a text to which objects are added; their symbols are Home.
type printing struct {
	packages []api.Package
	current  string
	text     strings.Builder
}

// span is the part of a text that is the text of one object. Elements are those of a proper list, unless it is printed with a quote mark.
type span struct {
	start, end int
	elements   []span
}

// object adds the text of o.
func (p *printing) object(o api.Object) span {
	s := span{start: p.text.Len()}
	switch o.Kind {
	case api.KindNumber:
		p.text.WriteString(numberText(o))
	case api.KindString:
		p.text.WriteString(enclose(inString, o.Text))
	case api.KindSymbol:
		p.text.WriteString(nameText(p.packages, p.current, o.Sym))
	case api.KindCons:
		s.elements = p.cons(o)
	}
	s.end = p.text.Len()
	return s
}

func numberText(o api.Object) string {
	if object.IsInteger(o) {
		return o.Num
	}
	return o.Num + "/" + o.Den
}

// cons adds the text of a cons, and returns the elements of its span.
func (p *printing) cons(o api.Object) []span {
	x, is := quoted(o)
	if !is {
		return p.list(o)
	}
	p.text.WriteString("'")
	p.object(x)
	return nil
}

// quoted returns x and true if o is the list of lisp::quote and x.
func quoted(o api.Object) (api.Object, bool) {
	quote := object.Symbol(api.Symbol{Package: "lisp", Name: "quote"})
	items, proper := object.Items(o)
	if !proper || len(items) != 2 || !object.Equal(items[0], quote) {
		return api.Object{}, false
	}
	return items[1], true
}

// list adds the text of a cons between parentheses, and returns the elements of its span.
func (p *printing) list(o api.Object) []span {
	var elements []span
	before := "("
	for o.Kind == api.KindCons {
		p.text.WriteString(before)
		elements = append(elements, p.object(o.Pair[0]))
		before, o = " ", o.Pair[1]
	}
	if !object.IsNil(o) {
		p.text.WriteString(" . ")
		p.object(o)
		elements = nil
	}
	p.text.WriteString(")")
	return elements
}
