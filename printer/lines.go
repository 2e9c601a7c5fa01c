package printer

import "strings"

// breaking is a text that is broken into lines.
type breaking struct {
	text  string
	width int
	lines []string
}

// add adds the lines of a span; before is what stands in front of its first line: one byte for each list that is broken around it.
func (b *breaking) add(s span, before string) {
	text := b.text[s.start:s.end]
	// Each broken list takes one from the width, and puts one byte into before.
	if len(before)+len(text) <= b.width || len(s.elements) < 2 {
		b.lines = append(b.lines, before+text)
		return
	}
	indent := strings.Repeat(" ", len(before)+1)
	before += "("
	for _, element := range s.elements {
		b.add(element, before)
		before = indent
	}
	b.lines[len(b.lines)-1] += ")"
}
