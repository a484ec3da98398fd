package parse_test

import (
	"strings"
	"testing"

	"proteus/api"
	"proteus/lex"
	"proteus/parse"
	"proteus/tree"
)

// rules is the chapter's grammar. A number behind a } is how often it may be at most, so that lists have no more parts than chapter 6 lets them have.
const rules = `
program: { stmt }40 End
expr: or End
block: "{" { stmt }40 "}"
stmt: "let" NAME "=" or ";" | "print" or ";" | "return" or ";" | "delete" place ";" | "if" "(" or ")" block [ "else" block ] | "while" "(" or ")" block | NAME "=" or ";" | place "=" or ";" | or ";"
place: post ( "." PROP | "[" or "]" )
or: and { "||" and }
and: eq { "&&" eq }
eq: cmp { ( "==" | "!=" ) cmp }
cmp: sum { ( "<" | "<=" | ">" | ">=" ) sum }
sum: prod { ( "+" | "-" ) prod }
prod: un { ( "*" | "/" | "%" ) un }
un: ( "-" | "!" ) un | post
post: atom { "." PROP [ "(" [ or { "," or }5 ] ")" ] | "[" or "]" | "(" [ or { "," or }5 ] ")" }
atom: Number | Quoted | "null" | "true" | "false" | "this" | NAME | "(" or ")" | "{" [ PROP ":" or { "," PROP ":" or }39 ] "}" | "fn" "(" [ NAME { "," NAME }5 ] ")" block | "count" "(" or ")" | "key" "(" or "," or ")" | "has" "(" or "," or ")" | "proto" "(" or ")" | "setproto" "(" or "," or ")" | "len" "(" or ")" | "str" "(" or ")"
`

// part is a part of a rule: a word, if it has no rows; else one of its rows, all of it, up to most times, and at least once, if it must be.
type part struct {
	word string
	rows [][]*part
	most int
	must bool
}

// noEnd is how often a part may be that has no bound.
const noEnd = 1 << 30

// grammar has a part for each rule; and all stacks that came, once each, so that what they can become is asked once.
type grammar struct {
	rules  map[string]*part
	one    map[stack]*stack
	opened map[*stack][]*stack
}

func newGrammar() grammar {
	g := grammar{map[string]*part{}, map[stack]*stack{}, map[*stack][]*stack{}}
	for line := range strings.Lines(strings.TrimSpace(rules)) {
		name, rule, _ := strings.Cut(line, ":")
		words := strings.Fields(rule)
		g.rules[name] = &part{rows: readRows(&words), most: 1, must: true}
	}
	return g
}

// readRows reads up to a closing word, or the end.
func readRows(words *[]string) [][]*part {
	rows := [][]*part{nil}
	for len(*words) > 0 && !strings.HasPrefix((*words)[0], "}") && (*words)[0] != "]" && (*words)[0] != ")" {
		w := (*words)[0]
		*words = (*words)[1:]
		switch w {
		case "|":
			rows = append(rows, nil)
			continue
		case "{", "[", "(":
			p := &part{rows: readRows(words), most: 1, must: w == "("}
			if most := strings.TrimPrefix((*words)[0], "}"); w == "{" {
				p.most = map[string]int{"": noEnd, "5": 5, "39": 39, "40": 40}[most]
			}
			*words = (*words)[1:]
			rows[len(rows)-1] = append(rows[len(rows)-1], p)
			continue
		}
		rows[len(rows)-1] = append(rows[len(rows)-1], &part{word: w})
	}
	return rows
}

// stack is what may come: a part, up to that often, and then what is below it.
type stack struct {
	top   *part
	left  int
	below *stack
}

// push is one and the same stack of these parts each time.
func (g grammar) push(top *part, left int, below *stack) *stack {
	s := stack{top, left, below}
	if g.one[s] == nil {
		g.one[s] = &s
	}
	return g.one[s]
}

// open is each stack that s can become and that has a word of tokens on top.
func (g grammar) open(s *stack) []*stack {
	if s == nil {
		return nil
	}
	if _, ok := g.opened[s]; !ok {
		g.opened[s] = g.becomes(s)
	}
	return g.opened[s]
}

func (g grammar) becomes(s *stack) []*stack {
	if rule := g.rules[s.top.word]; rule != nil {
		return g.open(g.push(rule, 1, s.below))
	}
	if s.top.rows == nil {
		return []*stack{s}
	}
	var l []*stack
	if !s.top.must {
		l = append(l, g.open(s.below)...)
	}
	for _, row := range s.top.rows {
		below := s.below
		if s.left == noEnd {
			below = s
		} else if s.left > 1 {
			below = g.push(s.top, s.left-1, below)
		}
		for i := len(row) - 1; i >= 0; i-- {
			below = g.push(row[i], row[i].most, below)
		}
		l = append(l, g.open(below)...)
	}
	return l
}

// reader goes through tokens with all that may come at once: so it never chooses, and never goes back.
type reader struct {
	g   grammar
	may []*stack
}

func (g grammar) reader(rule string) reader {
	return reader{g, g.open(g.push(g.rules[rule], 1, nil))}
}

// matches asks whether a token is one that a word stands for.
func matches(word string, t lex.Token) bool {
	switch word {
	case "NAME":
		return t.Kind == lex.Name
	case "PROP":
		return t.Kind == lex.Name || t.Kind == lex.Key
	case "Number":
		return t.Kind == lex.Number
	case "Quoted":
		return t.Kind == lex.Quoted
	case "End":
		return t.Kind == lex.End
	}
	return (t.Kind == lex.Key || t.Kind == lex.Sign) && word == `"`+t.Text+`"`
}

// take takes a token; or it tells that none of what may come begins with it.
func (r *reader) take(t lex.Token) bool {
	was, ok := r.may, false
	r.may = nil
	seen := map[*stack]bool{}
	for _, s := range was {
		if !matches(s.top.word, t) {
			continue
		}
		ok = true
		for _, x := range r.g.open(s.below) {
			if !seen[x] {
				seen[x] = true
				r.may = append(r.may, x)
			}
		}
	}
	return ok
}

// stuck is the place of the first token that can't stand in a text; or -1.
func (g grammar) stuck(t *testing.T, rule, s string) int {
	t.Helper()
	l, _, e := lex.Tokens(s)
	if e != api.OK {
		t.Fatalf("%q has other tokens: %v", s, e)
	}
	r := g.reader(rule)
	for _, x := range l {
		if !r.take(x) {
			return x.At
		}
	}
	return -1
}

// agrees holds what Parse and Expr tell of a text against the grammar: where it is wrong, or that it is not, and its tree may be.
func agrees(t *testing.T, g grammar, s string) {
	t.Helper()
	for rule, face := range map[string]func(string) (api.Node, int, api.Errno){"program": parse.Parse, "expr": parse.Expr} {
		want := g.stuck(t, rule, s)
		n, at, e := face(s)
		if want >= 0 && (e != api.ErrSay || at != want) || want < 0 && e != api.OK && e != api.ErrDeep {
			t.Fatalf("%s: %q is told as %v, %d, %v; the grammar is stuck at %d", rule, s, n, at, e, want)
		}
		if e != api.OK {
			isNothing(t, s, n)
		} else if rule == "expr" {
			n = block(stmt(n))
		}
		if c := tree.Check(n); e == api.OK && c != api.OK && (rule == "program" || c != api.ErrDeep) || at != 0 && e == api.OK {
			t.Fatalf("%s: %q is told as %v, %d; Check: %v", rule, s, n, at, c)
		}
	}
}

// words are all tokens that can be told apart by the grammar.
func words() []string {
	l := strings.Fields("count delete else false fn has if key len let null print proto return setproto str this true while")
	l = append(l, strings.Fields("( ) { } [ ] , ; : . + - * / % < > = ! <= >= == != && ||")...)
	return append(l, "a", "7", `"s"`)
}

// extended asks of a text that goes on, and of each token behind it, what a face tells; and of those that can stand there, up to that many more.
func (r reader) extended(t *testing.T, face func(string) (api.Node, int, api.Errno), s string, l []lex.Token, more int) {
	for _, w := range l {
		x := s + lex.Print([]lex.Token{w})
		with := r
		want := len(x)
		if !with.take(w) {
			want = len(s)
		} else if ended := with; ended.take(lex.Token{Kind: lex.End}) {
			want = -1
		}
		if n, at, e := face(x); want >= 0 && (e != api.ErrSay || at != want) || want < 0 && (e != api.OK || at != 0) {
			t.Fatalf("%q is told as %v, %d, %v; the grammar is stuck at %d", x, n, at, e, want)
		}
		if want != len(s) && more > 1 {
			with.extended(t, face, x, l, more-1)
		}
	}
}

// P7.1: all texts of up to four tokens, and all of some tokens that are a little longer, of which only the last token may be wrong.
func TestAllShortTexts(t *testing.T) {
	g := newGrammar()
	all, _, _ := lex.Tokens(strings.Join(words(), " "))
	some, _, _ := lex.Tokens("a ( ) { } . = ; if fn")
	for _, c := range []struct {
		l    []lex.Token
		most int
	}{{all[:len(all)-1], 4}, {some[:len(some)-1], 6}} {
		g.reader("program").extended(t, parse.Parse, "", c.l, c.most)
		g.reader("expr").extended(t, parse.Expr, "", c.l, c.most)
	}
}

// samples are texts of each line of the grammar, and of each choice in it, alone and within others.
func samples() []string {
	return []string{
		"", "a;", "a; b;", "let a = 1;", "print a;", "return a;", "delete a.x;", "delete a[b];", "delete a.f(1)[2].x;", "delete (a + b).x;",
		"if (a) { }", "if (a) { b; } else { c; }", "if (a) { } else { }", "while (a) { }", "while (a) { b; c; }",
		"a = 1;", "a.x = 1;", "a[b] = 1;", "a.f(1).x = 2;", "a(1)[2] = 3;", "(a).x = 1;", "(a.x).y = 1;", "{}.x = 1;", "this.if = this;", `"s".x = 1;`,
		"a || b || c;", "a && b && c;", "a == b != c;", "a < b <= c > d >= e;", "a + b - c;", "a * b / c % d;", "- ! - a;", "a || b && c == d < e + f * - g . x;",
		"a.x;", "a.if;", "a.f();", "a.f(1);", "a.f(1, 2);", "a[b];", "a();", "a(1);", "a(1, 2, 3, 4, 5, 6);", "a.x.y[1](2).f(3)(4);", "(a.f)(1);",
		"7;", `"s";`, "null;", "true;", "false;", "this;", "(a);", "((a));", "{};", "{x: 1};", "{x: 1, if: 2, y: {z: {}}};",
		"fn() {};", "fn(a) { return a; };", "fn(a, b, c, d, e, f) { }(1);", "count(a);", "key(a, b);", "has(a, b);", "proto(a);", "setproto(a, b);", "len(a);", "str(a);",
		"let f = fn(a) { if (a < 1) { return { x: a }; } else { while (a) { a = a - 1; } } delete a.x; };", "f(fn() { a[1] = key(a, (b)); }, {f: fn(a) { }});",
	}
}

// P7.1: each line of the grammar, ended behind each of its tokens, with another token there, with one more, with one less.
func TestSamplesSpoilt(t *testing.T) {
	g := newGrammar()
	for _, s := range samples() {
		if at := g.stuck(t, "program", s); at >= 0 {
			t.Fatalf("%q is no sample: the grammar is stuck at %d", s, at)
		}
		l, _, _ := lex.Tokens(s)
		l = l[:len(l)-1]
		for i := range len(l) + 1 {
			left := lex.Print(l[:i])
			agrees(t, g, left)
			for _, w := range words() {
				agrees(t, g, left+w+" "+lex.Print(l[i:]))
				if i < len(l) {
					agrees(t, g, left+w+" "+lex.Print(l[i+1:]))
				}
			}
			if i < len(l) {
				agrees(t, g, left+lex.Print(l[i+1:]))
			}
		}
	}
}

// P7.1: long texts, with few tokens changed.
func TestMixedTextsSpoilt(t *testing.T) {
	d := dice(3)
	right, wrong := 0, 0
	for range 1000 {
		_, s := grown(&d, 2+d.upTo(9))
		l, _, e := lex.Tokens(s)
		if e != api.OK {
			continue
		}
		l = l[:len(l)-1]
		for range d.upTo(3) {
			w, _, _ := lex.Tokens(words()[d.upTo(len(words()))])
			i := d.upTo(len(l) + 1)
			l = append(append(append([]lex.Token{}, l[:i]...), w[0]), l[min(len(l), i+d.upTo(2)):]...)
		}
		if s = lex.Print(l); len(l) > 600 || len(s) > 2000 {
			continue
		}
		agrees(t, newGrammar(), s)
		if _, _, e := parse.Parse(s); e == api.ErrSay {
			wrong++
		} else {
			right++
		}
	}
	if right < 200 || wrong < 200 {
		t.Errorf("the texts are of one sort: %d are right, %d are wrong", right, wrong)
	}
}
