package state

import (
	"strings"

	"proteus/api"
	"proteus/text"
	"proteus/value"
)

// tell writes all of it.
func (r *running) tell(b *strings.Builder, steps int) {
	b.WriteString(r.heap.Dump())
	var globals []string
	for _, v := range r.globals {
		globals = append(globals, value.Print(v))
	}
	line(b, "G", globals...)
	for _, s := range r.out {
		line(b, "P", text.Quote(s))
	}
	line(b, "S", value.Print(api.Value{Kind: api.Int, N: steps}))
}

// line writes what a line is about, and texts, each with a blank ahead.
func line(b *strings.Builder, about string, texts ...string) {
	b.WriteString(about)
	for _, s := range texts {
		b.WriteString(" " + s)
	}
	b.WriteString("\n")
}
