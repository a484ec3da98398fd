package lex_test

import (
	"math"
	"math/big"
	"regexp"
	"slices"
	"strings"
	"testing"

	"proteus/api"
	"proteus/lex"
	"proteus/num"
	"proteus/text"
)

// The keys and signs of the chapter, as it lists them.
const (
	allKeys  = "count delete else false fn has if key len let null print proto return setproto str this true while"
	allSigns = "( ) { } [ ] , ; : . + - * / % < > = ! <= >= == != && ||"
)

func keys() []string  { return strings.Fields(allKeys) }
func signs() []string { return strings.Fields(allSigns) }

func name(s string, at int) lex.Token   { return lex.Token{Kind: lex.Name, Text: s, At: at} }
func key(s string, at int) lex.Token    { return lex.Token{Kind: lex.Key, Text: s, At: at} }
func quoted(s string, at int) lex.Token { return lex.Token{Kind: lex.Quoted, Text: s, At: at} }
func sign(s string, at int) lex.Token   { return lex.Token{Kind: lex.Sign, Text: s, At: at} }
func number(n int, at int) lex.Token {
	return lex.Token{Kind: lex.Number, Text: num.Digits(n), N: n, At: at}
}

// tells holds Tokens of s against tokens, to which the End is added.
func tells(t *testing.T, s string, want ...lex.Token) {
	t.Helper()
	want = append(want, lex.Token{Kind: lex.End, At: len(s)})
	got, at, e := lex.Tokens(s)
	if !slices.Equal(got, want) || at != 0 || e != api.OK {
		t.Errorf("Tokens(%q) is %v, %d, %v; not %v", s, got, at, e, want)
	}
}

func refused(t *testing.T, s string, at int, e api.Errno) {
	t.Helper()
	if l, gotAt, got := lex.Tokens(s); len(l) != 0 || gotAt != at || got != e {
		t.Errorf("Tokens(%q) is %v, %d, %v; not refused at %d with %v", s, l, gotAt, got, at, e)
	}
}

// P5.1: the numbers of the kinds are those that the chapter gives.
func TestKinds(t *testing.T) {
	if got := [...]int{lex.Name, lex.Key, lex.Number, lex.Quoted, lex.Sign, lex.End}; got != [...]int{1, 2, 3, 4, 5, 6} {
		t.Error(got)
	}
}

// P5.1
func TestTokens(t *testing.T) {
	tells(t, "")
	tells(t, "a<=b", name("a", 0), sign("<=", 1), name("b", 3))
	tells(t, "let x1 = 007;", key("let", 0), name("x1", 4), sign("=", 7), number(7, 9), sign(";", 12))
	tells(t, `o["k"].f(this, -1)`,
		name("o", 0), sign("[", 1), quoted("k", 2), sign("]", 5), sign(".", 6), name("f", 7), sign("(", 8),
		key("this", 9), sign(",", 13), sign("-", 15), number(1, 16), sign(")", 17))
	tells(t, "fn(a){return a;}",
		key("fn", 0), sign("(", 2), name("a", 3), sign(")", 4), sign("{", 5), key("return", 6), name("a", 13), sign(";", 14), sign("}", 15))
	tells(t, `"a""b"`, quoted("a", 0), quoted("b", 3))
	tells(t, `a"b"1"c"if"d"`, name("a", 0), quoted("b", 1), number(1, 4), quoted("c", 5), key("if", 8), quoted("d", 10))
	tells(t, "1a 1_ a1 12let", number(1, 0), name("a", 1), number(1, 3), name("_", 4), name("a1", 6), number(12, 9), key("let", 11))
}

// P5.1: each key, alone and where it is a part of a longer run.
func TestTokensOfEachKey(t *testing.T) {
	for _, k := range keys() {
		n := len(k)
		tells(t, k, key(k, 0))
		tells(t, k+" "+k, key(k, 0), key(k, n+1))
		tells(t, "("+k+")", sign("(", 0), key(k, 1), sign(")", n+1))
		for _, s := range []string{k + "s", k + "1", k + "_", "_" + k, "a" + k, k[:n-1] + "A", strings.ToUpper(k), strings.ToUpper(k[:1]) + k[1:]} {
			tells(t, s, name(s, 0))
		}
		tells(t, "1"+k, number(1, 0), key(k, 1))
		tells(t, k+"-"+k, key(k, 0), sign("-", n), key(k, n+1))
		if s := k[:n-1]; !slices.Contains(keys(), s) {
			tells(t, s, name(s, 0))
		}
	}
	tells(t, "fals nul that key1 keys", name("fals", 0), name("nul", 5), name("that", 9), name("key1", 14), name("keys", 19))
}

// P5.1: each sign, alone and among others.
func TestTokensOfEachSign(t *testing.T) {
	for _, x := range signs() {
		n := len(x)
		tells(t, x, sign(x, 0))
		tells(t, "a"+x+"1", name("a", 0), sign(x, 1), number(1, n+1))
		tells(t, x+" "+x, sign(x, 0), sign(x, n+1))
		tells(t, `""`+x+`""`, quoted("", 0), sign(x, 2), quoted("", n+2))
	}
}

// P5.1: of signs of which one begins the other, the longest counts, from the left on.
func TestTokensOfSignsSideBySide(t *testing.T) {
	tells(t, "<=", sign("<=", 0))
	tells(t, "< =", sign("<", 0), sign("=", 2))
	tells(t, "<==", sign("<=", 0), sign("=", 2))
	tells(t, "<<=", sign("<", 0), sign("<=", 1))
	tells(t, "===", sign("==", 0), sign("=", 2))
	tells(t, "====", sign("==", 0), sign("==", 2))
	tells(t, "=<=", sign("=", 0), sign("<=", 1))
	tells(t, "=>=", sign("=", 0), sign(">=", 1))
	tells(t, ">=>", sign(">=", 0), sign(">", 2))
	tells(t, "!!=", sign("!", 0), sign("!=", 1))
	tells(t, "!==", sign("!=", 0), sign("=", 2))
	tells(t, "!===", sign("!=", 0), sign("==", 2))
	tells(t, "<>", sign("<", 0), sign(">", 1))
	tells(t, "=!", sign("=", 0), sign("!", 1))
	tells(t, "&&&&||||", sign("&&", 0), sign("&&", 2), sign("||", 4), sign("||", 6))
	tells(t, "*/", sign("*", 0), sign("/", 1))
	tells(t, "++--", sign("+", 0), sign("+", 1), sign("-", 2), sign("-", 3))
}

// P5.1: each blank, and bytes that look like blanks and are none.
func TestTokensOfBlanks(t *testing.T) {
	for _, s := range []string{" ", "\n", "\t", "  ", " \n\t\n ", "//", "// a", "//\n", "// @\"\xff\x00&\r \n", "//a\n//b\n", "///", "////", "// // \n\t//"} {
		tells(t, s)
		n := len(s)
		tells(t, s+"\na", name("a", n+1))
		tells(t, "a "+s, name("a", 0))
		tells(t, "a"+s, name("a", 0))
		tells(t, "a"+s+"\nb", name("a", 0), name("b", n+2))
		tells(t, "1"+s+"\n2", number(1, 0), number(2, n+2))
		tells(t, "="+s+"\n=", sign("=", 0), sign("=", n+2))
		tells(t, `"`+"a"+`"`+s+"\nif", quoted("a", 0), key("if", n+4))
	}
	for _, b := range []string{"\r", "\v", "\f", "\x00", "\x7f", "\xa0", "\x85", "\u00a0"} {
		refused(t, b, 0, api.ErrWord)
		refused(t, "a"+b+"a", 1, api.ErrWord)
	}
}

// P5.1: what stands from two slashes on is no token, and one slash alone is a sign.
func TestTokensOfSlashes(t *testing.T) {
	tells(t, "/", sign("/", 0))
	tells(t, "a/", name("a", 0), sign("/", 1))
	tells(t, "/ /", sign("/", 0), sign("/", 2))
	tells(t, "/\n/", sign("/", 0), sign("/", 2))
	tells(t, "a/b", name("a", 0), sign("/", 1), name("b", 2))
	tells(t, "a//", name("a", 0))
	tells(t, "a //b c\n d", name("a", 0), name("d", 9))
	tells(t, "a//b\r c\nd", name("a", 0), name("d", 8))
	tells(t, "a///b\n/", name("a", 0), sign("/", 6))
	tells(t, "*//*/", sign("*", 0))
	tells(t, `"//" // "`, quoted("//", 0))
	tells(t, `"a//b"c`, quoted("a//b", 0), name("c", 6))
	refused(t, "/@", 1, api.ErrWord)
	refused(t, "//@\n@", 4, api.ErrWord)
}

// P5.1: runs up to the longest that a name may be, and beyond.
func TestTokensOfLongRuns(t *testing.T) {
	for _, s := range []string{"abcdefghijkl", "____________", "a23456789012", "Z_9z_9Z_9z_9"} {
		for n := range 13 {
			if n > 0 {
				tells(t, " "+s[:n]+"+", name(s[:n], 1), sign("+", n+1))
			}
		}
		for _, more := range []string{"m", "_", "0", "mno", strings.Repeat("9", 300)} {
			refused(t, s+more, 0, api.ErrWord)
			refused(t, "let "+s+more+";", 4, api.ErrWord)
		}
		tells(t, s+" m", name(s, 0), name("m", 13))
	}
	refused(t, "setprotosetproto", 0, api.ErrWord)
}

// P5.1: the greatest number, one more, and zeros ahead.
func TestTokensOfNumbers(t *testing.T) {
	for _, n := range []int{0, 1, 9, 10, 42, 1 << 31, 1 << 53, num.Most - 1, num.Most} {
		for _, zeros := range []int{0, 1, 2, 30, 500} {
			s := strings.Repeat("0", zeros) + num.Digits(n)
			tells(t, " "+s+";", number(n, 1), sign(";", len(s)+1))
		}
	}
	for _, s := range []string{
		"4611686018427387904", "4611686018427387910", "9223372036854775807", "9223372036854775808", "18446744073709551616",
		"0004611686018427387904", strings.Repeat("0", 500) + "4611686018427387904", strings.Repeat("9", 1500), "1" + strings.Repeat("0", 64),
	} {
		refused(t, s, 0, api.ErrRange)
		refused(t, "a = "+s+"a;", 4, api.ErrRange)
	}
	if l, _, _ := lex.Tokens("4611686018427387903"); l[0].N != 1<<62-1 || l[0].Text != "4611686018427387903" {
		t.Error(l)
	}
	tells(t, "-4611686018427387903", sign("-", 0), number(num.Most, 1))
	tells(t, "1.5", number(1, 0), sign(".", 1), number(5, 2))
	tells(t, "0x1F 1e9", number(0, 0), name("x1F", 1), number(1, 5), name("e9", 6))
}

// P5.1
func TestTokensOfStrings(t *testing.T) {
	tells(t, `""`, quoted("", 0))
	tells(t, `"a\"b"`, quoted(`a"b`, 0))
	tells(t, `"\\"a`, quoted(`\`, 0), name("a", 4))
	tells(t, `"\x0a\xFf" "let"`, quoted("\n\xff", 0), quoted("let", 11))
	tells(t, `  "12" `, quoted("12", 2))
}

// P5.1: strings of 256 bytes, and of one more, however they are written.
func TestTokensOfLongStrings(t *testing.T) {
	for _, one := range []string{"a", `\"`, `\\`, `\x41`, `\x00`} {
		b, _, _ := text.Take(`"` + one + `"`)
		long := `"` + strings.Repeat(one, 256) + `"`
		tells(t, "a "+long+"b", name("a", 0), quoted(strings.Repeat(b, 256), 2), name("b", 2+len(long)))
		refused(t, `"`+strings.Repeat(one, 257)+`"`, 0, api.ErrLong)
		refused(t, `a "`+strings.Repeat(one, 257)+`"@`, 2, api.ErrLong)
		refused(t, `a "b" "a`+strings.Repeat(one, 256)+`"`, 6, api.ErrLong)
	}
	refused(t, `"`+strings.Repeat("a", 1998)+`"`, 0, api.ErrLong)
	// A string that is too long, and does not end, is no string.
	refused(t, `"`+strings.Repeat("a", 300), 301, api.ErrWord)
	refused(t, ` "`+strings.Repeat("a", 300)+`\q"`, 303, api.ErrWord)
}

// P5.1: strings that do not end, or that are written wrongly.
func TestTokensOfWrongStrings(t *testing.T) {
	for _, c := range []struct {
		s  string
		at int
	}{
		{`"`, 1}, {`"ab`, 3}, {`"ab\"`, 5}, {`"\`, 2}, {`"\x`, 3}, {`"\x4`, 4}, {`"\q"`, 2}, {`"\x4g"`, 4}, {`"\xg4"`, 3}, {`"\n"`, 2},
		{"\"a\nb\"", 2}, {"\"a\tb\"", 2}, {"\"a\x7f\"", 2}, {"\"a\xc3\xa9\"", 2}, {"\"\x00\"", 1}, {`"a" "b`, 6}, {`"""`, 3}, {`"a"\`, 3},
	} {
		refused(t, c.s, c.at, api.ErrWord)
		for _, ahead := range []string{" ", "a ", "a+", `"b"`, "// \"\n", "1\t"} {
			refused(t, ahead+c.s, len(ahead)+c.at, api.ErrWord)
		}
	}
}

// P5.1: bytes at which no token begins, those of 128 and above among them.
func TestTokensOfWrongBytes(t *testing.T) {
	begins := regexp.MustCompile(`^[a-zA-Z_0-9" \n\t(){}\[\],;:.+\-*/%<>=!]$`)
	for i := range 256 {
		b := string([]byte{byte(i)})
		if begins.MatchString(b) {
			continue
		}
		refused(t, b, 0, api.ErrWord)
		refused(t, "a "+b, 2, api.ErrWord)
		refused(t, "let"+b+"1", 3, api.ErrWord)
		refused(t, "\t1"+b+" "+b, 2, api.ErrWord)
		tells(t, "a//"+b, name("a", 0))
	}
	refused(t, "a & b", 2, api.ErrWord)
	refused(t, "a | b", 2, api.ErrWord)
	refused(t, "& &", 0, api.ErrWord)
	refused(t, "&&&", 2, api.ErrWord)
	refused(t, "|||", 2, api.ErrWord)
	refused(t, "&|", 0, api.ErrWord)
	refused(t, "é", 0, api.ErrWord)
	refused(t, "aé", 1, api.ErrWord)
	refused(t, "'a'", 0, api.ErrWord)
}

// P5.1: of two errors the first counts.
func TestTokensOfTwoErrors(t *testing.T) {
	wrong := []struct {
		s  string
		at int
		e  api.Errno
	}{
		{"@", 0, api.ErrWord}, {"&", 0, api.ErrWord}, {"abcdefghijklm", 0, api.ErrWord}, {"4611686018427387904", 0, api.ErrRange},
		{`"` + strings.Repeat("a", 257) + `"`, 0, api.ErrLong}, {`"a\q"`, 3, api.ErrWord}, {"\"ab\n", 3, api.ErrWord},
	}
	for _, a := range wrong {
		for _, b := range wrong {
			refused(t, a.s+" "+b.s, a.at, a.e)
			refused(t, "x "+a.s+"\n"+b.s, 2+a.at, a.e)
		}
	}
}

// P5.1: a text of 2000 bytes, and of one more, whatever it is.
func TestTokensOfLongTexts(t *testing.T) {
	tells(t, strings.Repeat(" ", 2000))
	tells(t, strings.Repeat(" ", 1999)+"a", name("a", 1999))
	tells(t, "//"+strings.Repeat("@", 1998))
	tells(t, strings.Repeat("0", 2000), number(0, 0))
	for _, s := range []string{" ", "a", "@", "0", "(", `"`, "\n", "9", "\xff", "&", "/"} {
		refused(t, strings.Repeat(s, 2001), 0, api.ErrLong)
		refused(t, "@"+strings.Repeat(s, 2000), 0, api.ErrLong)
		refused(t, strings.Repeat(s, 70000), 0, api.ErrLong)
	}
	refused(t, strings.Repeat(" ", 1999)+"@", 1999, api.ErrWord)
	refused(t, strings.Repeat(" ", 1999)+`"`, 2000, api.ErrWord)
}

// P5.1: 600 tokens, and one more.
func TestTokensOfManyTokens(t *testing.T) {
	for _, one := range []string{"a ", ";", "1 ", "if\n", `""`, "<="} {
		n := len(one)
		full := strings.Repeat(one, 600)
		for _, behind := range []string{"", " ", "\n\t ", "//", "// a b\n"} {
			if l, at, e := lex.Tokens(full + behind); len(l) != 601 || at != 0 || e != api.OK ||
				l[599].At != 599*n || l[600] != (lex.Token{Kind: lex.End, At: 600*n + len(behind)}) {
				t.Errorf("600 of %q and %q: %d, %d, %v", one, behind, len(l), at, e)
			}
		}
		for _, more := range []string{"a", "1", ";", "if", `"x"`, "a b", "a @", `1 "x`, ") 4611686018427387904"} {
			refused(t, full+" "+more, 600*n+1, api.ErrFull)
		}
		refused(t, full+one, 600*n, api.ErrFull)
	}
	refused(t, strings.Repeat(";", 2000), 600, api.ErrFull)
	refused(t, strings.Repeat("; ", 1000), 1200, api.ErrFull)
}

// P5.1: behind the 600th token, what is no token is told by its own error, as there is none that would be one too many.
func TestTokensOfErrorsBehindTheLastToken(t *testing.T) {
	full := strings.Repeat(";", 600)
	refused(t, full+"@", 600, api.ErrWord)
	refused(t, full+" &", 601, api.ErrWord)
	refused(t, full+"abcdefghijklm", 600, api.ErrWord)
	refused(t, full+`"ab`, 603, api.ErrWord)
	refused(t, full+`"a\q"`, 603, api.ErrWord)
	refused(t, full+"4611686018427387904", 600, api.ErrRange)
	refused(t, full+`"`+strings.Repeat("a", 257)+`"`, 600, api.ErrLong)
	refused(t, full+";@", 600, api.ErrFull)
	refused(t, full[1:]+"@"+full, 599, api.ErrWord)
}

// model is Tokens, by patterns.
type model struct{ blank, word, digits, quoted, badQuote, sign *regexp.Regexp }

func newModel() model {
	const part = `(?:[ !#-\[\]-~]|\\["\\]|\\x[0-9a-fA-F]{2})*`
	m := model{
		blank:    regexp.MustCompile(`^(?:[ \n\t]|//[^\n]*)+`),
		word:     regexp.MustCompile(`^[a-zA-Z_][a-zA-Z_0-9]*`),
		digits:   regexp.MustCompile(`^[0-9]+`),
		quoted:   regexp.MustCompile(`^"` + part + `"`),
		badQuote: regexp.MustCompile(`^"` + part + `(?:\\(?:x[0-9a-fA-F]?)?)?`),
		sign:     regexp.MustCompile(`^(?:[<>=!]=|&&|\|\||[(){}\[\],;:.+\-*/%<>=!])`),
	}
	m.badQuote.Longest()
	return m
}

// one is what the pattern model makes of a text that begins with no blank.
func (m model) one(s string) (lex.Token, int, api.Errno) {
	if w := m.word.FindString(s); w != "" {
		if len(w) > 12 {
			return lex.Token{}, 0, api.ErrWord
		}
		if strings.Contains(" "+allKeys+" ", " "+w+" ") {
			return key(w, 0), len(w), api.OK
		}
		return name(w, 0), len(w), api.OK
	}
	if d := m.digits.FindString(s); d != "" {
		n, _ := new(big.Int).SetString(d, 10)
		if n.BitLen() > 62 {
			return lex.Token{}, 0, api.ErrRange
		}
		return lex.Token{Kind: lex.Number, Text: n.String(), N: int(n.Int64())}, len(d), api.OK
	}
	if q := m.quoted.FindString(s); q != "" {
		x, _, _ := text.Take(q)
		if len(x) > 256 {
			return lex.Token{}, 0, api.ErrLong
		}
		return quoted(x, 0), len(q), api.OK
	}
	if x := m.sign.FindString(s); x != "" {
		return sign(x, 0), len(x), api.OK
	}
	return lex.Token{}, len(m.badQuote.FindString(s)), api.ErrWord
}

func (m model) tokens(s string) ([]lex.Token, int, api.Errno) {
	var l []lex.Token
	at := 0
	for {
		at += len(m.blank.FindString(s[at:]))
		if at == len(s) {
			return append(l, lex.Token{Kind: lex.End, At: at}), 0, api.OK
		}
		x, n, e := m.one(s[at:])
		if e != api.OK {
			return nil, at + n, e
		}
		if len(l) == 600 {
			return nil, at, api.ErrFull
		}
		x.At = at
		l = append(l, x)
		at += n
	}
}

func agrees(t *testing.T, m model, s string) {
	t.Helper()
	want, wantAt, wantErr := m.tokens(s)
	if got, at, e := lex.Tokens(s); !slices.Equal(got, want) || at != wantAt || e != wantErr {
		t.Fatalf("Tokens(%q) is %v, %d, %v; not %v, %d, %v", s, got, at, e, want, wantAt, wantErr)
	}
}

// P5.1: all short texts over parts that count, held against the patterns.
func TestTokensOfAllShortTexts(t *testing.T) {
	m := newModel()
	last := []string{""}
	for range 4 {
		var next []string
		for _, s := range last {
			for _, b := range []string{"a", "if", "0", "7", "_", `"`, `\`, "x", "=", "<", "!", "/", "&", "|", ".", " ", "\n", "\t", "@", "\xff"} {
				next = append(next, s+b)
			}
		}
		for _, s := range next {
			agrees(t, m, s)
		}
		last = next
	}
}

// dice is a row of numbers that looks like chance, and is the same each time.
type dice uint64

func (d *dice) upTo(n int) int {
	*d = *d*6364136223846793005 + 1442695040888963407
	return int(uint64(*d) >> 33 % uint64(n))
}

// P5.1: long texts put together of parts, few of them wrong.
func TestTokensOfMixedTexts(t *testing.T) {
	parts := append(keys(), signs()...)
	parts = append(parts, "a", "b1", "_", "abcdefghijkl", "0", "42", "007", "4611686018427387903", `""`, `"a b"`, `"\x00\"\\"`, " ", "  ", "\n", "\t", "// c\n")
	rare := []string{"@", "&", "|", "\xff", `"`, `"a`, `\`, "//", "4611686018427387904", "abcdefghijklm", `"` + strings.Repeat("x", 257) + `"`}
	m, d := newModel(), dice(5)
	for range 3000 {
		var w strings.Builder
		for range d.upTo(900) {
			p := parts[d.upTo(len(parts))]
			if d.upTo(1000) == 0 {
				p = rare[d.upTo(len(rare))]
			}
			if w.Len()+len(p) <= 2000 {
				w.WriteString(p)
			}
		}
		agrees(t, m, w.String())
	}
}

// P5.1: an answer is nobody else's.
func TestTokensAreNew(t *testing.T) {
	a, _, _ := lex.Tokens("a + 1")
	b, _, _ := lex.Tokens("a + 1")
	a[0].Text = "b"
	if b[0] != name("a", 0) {
		t.Error(b)
	}
}

// P5.2
func TestIsKey(t *testing.T) {
	if n := len(keys()); n != 19 {
		t.Fatal(n)
	}
	for _, k := range keys() {
		if !lex.IsKey(k) {
			t.Errorf("%s is a key", k)
		}
		for _, s := range []string{k + "x", k + " ", " " + k, k + "\x00", k + k, strings.ToUpper(k), k[1:] + "?"} {
			if lex.IsKey(s) {
				t.Errorf("%q is no key", s)
			}
		}
	}
	for _, s := range []string{"", "that", "f", "i", "retur", "for", "var", "function", "set", "get", "and", "or", "not", "Null", "(", "==", "1", "_", "\xff", allKeys, strings.Repeat("let", 1000)} {
		if lex.IsKey(s) {
			t.Errorf("%q is no key", s)
		}
	}
}

// rightOnes are tokens that may be, of each kind, those at the edges among them.
func rightOnes() []lex.Token {
	var l []lex.Token
	for _, s := range []string{"a", "Z", "_", "a1", "_9", "abcdefghijkl", "____________", "lets", "Let", "x_", "thi", "This"} {
		l = append(l, name(s, 0))
	}
	for _, s := range keys() {
		l = append(l, key(s, 0))
	}
	for _, n := range []int{0, 1, 9, 10, 42, 1 << 31, 1 << 53, num.Most - 1, num.Most} {
		l = append(l, number(n, 0))
	}
	for _, s := range []string{"", "a", "a b", `"`, `\`, "\n", "\x00\xff", "// c", "if", "12", "é", "==", strings.Repeat("a", 256), strings.Repeat("\"", 256), strings.Repeat("\xff", 256)} {
		l = append(l, quoted(s, 0))
	}
	for _, s := range signs() {
		l = append(l, sign(s, 0))
	}
	return l
}

func atPlaces(x lex.Token) []lex.Token {
	var l []lex.Token
	for _, at := range []int{0, 1, 2000, 2001, -1, math.MinInt, math.MaxInt} {
		x.At = at
		l = append(l, x)
	}
	return l
}

// P5.2
func TestRight(t *testing.T) {
	for _, x := range append(rightOnes(), lex.Token{Kind: lex.End}) {
		for _, y := range atPlaces(x) {
			if !lex.Right(y) {
				t.Errorf("%v may come", y)
			}
		}
		if x.Kind == lex.Number {
			continue
		}
		for _, n := range []int{1, -1, num.Most, math.MinInt, math.MaxInt} {
			y := x
			if y.N = n; lex.Right(y) {
				t.Errorf("%v may not come", y)
			}
		}
	}
}

// P5.2: tokens of each kind with a wrong Text or a wrong N.
func TestRightOfWrongTokens(t *testing.T) {
	var l []lex.Token
	for _, s := range append(keys(), "", "1", "1a", "a b", "a ", " a", "a-b", "é", "a\x00", "abcdefghijklm", "(", `"a"`) {
		l = append(l, name(s, 0))
	}
	for _, s := range append(signs(), "", "a", "that", "If", "if ", " if", "ifif", "1", `"if"`) {
		l = append(l, key(s, 0))
	}
	for _, s := range append(keys(), "", " ", "&", "|", "//", "===", "<==", "<=>", "= =", "( ", " (", "()", "@", "a", "1", "\x00", "\xff", "+=", "=>", "<>", "++", "||&&") {
		l = append(l, sign(s, 0))
	}
	for _, s := range []string{" ", "a", "(", "\x00", "end"} {
		l = append(l, lex.Token{Kind: lex.End, Text: s})
	}
	l = append(l, quoted(strings.Repeat("a", 257), 0), quoted(strings.Repeat("\xff", 5000), 0))
	for _, n := range []int{-1, -7, num.Least, num.Least - 1, num.Most + 1, math.MinInt, math.MaxInt} {
		l = append(l, number(n, 0))
	}
	for _, n := range []int{0, 1, 10, num.Most} {
		d := num.Digits(n)
		for _, s := range []string{"", "0" + d, d + "0", "+" + d, "-" + d, d + " ", " " + d, d + ".", "a", "2"} {
			if s != "0" || n != 0 {
				l = append(l, lex.Token{Kind: lex.Number, Text: s, N: n})
			}
		}
	}
	l = append(l, lex.Token{Kind: lex.Number}, lex.Token{Kind: lex.Number, Text: "0", N: 1}, lex.Token{Kind: lex.Number, Text: "1"})
	for _, x := range l {
		for _, y := range atPlaces(x) {
			if lex.Right(y) {
				t.Errorf("%v may not come", y)
			}
		}
	}
}

// P5.2: kinds that there are not.
func TestRightOfOtherKinds(t *testing.T) {
	for _, kind := range []int{0, 7, 8, -1, -5, 255, 257, 258, 259, 260, 261, 262, 1<<32 + 1, math.MinInt, math.MaxInt} {
		for _, x := range append(rightOnes(), lex.Token{}) {
			if x.Kind = kind; lex.Right(x) {
				t.Errorf("%v may not come", x)
			}
		}
	}
}

// P5.2: a token of one kind is not one of another, but where the Text may be both.
func TestRightOfSwappedKinds(t *testing.T) {
	for _, x := range rightOnes() {
		for kind := lex.Name; kind <= lex.End; kind++ {
			y := x
			y.Kind = kind
			want := kind == x.Kind
			if x.Kind == lex.Quoted && x.Text != "" {
				l, _, e := lex.Tokens(x.Text)
				want = want || e == api.OK && len(l) == 2 && l[0] == (lex.Token{Kind: kind, Text: x.Text})
			}
			want = want || kind == lex.Quoted && x.N == 0 || kind == lex.End && x.Text == "" || y == number(0, 0)
			if got := lex.Right(y); got != want {
				t.Errorf("Right(%v) is %v", y, got)
			}
		}
	}
}

// P5.2
func TestPrint(t *testing.T) {
	for _, c := range []struct {
		l    []lex.Token
		want string
	}{
		{nil, ""},
		{[]lex.Token{}, ""},
		{[]lex.Token{name("a", 7)}, "a "},
		{[]lex.Token{key("let", 0), name("x1", 4), sign("=", 7), quoted(`a"b`, 9), sign(";", 0)}, `let x1 = "a\"b" ; `},
		{[]lex.Token{number(7, 0), number(num.Most, 0)}, "7 4611686018427387903 "},
		{[]lex.Token{sign("<", 0), sign("=", 1), sign("<=", 2)}, "< = <= "},
		{[]lex.Token{quoted("", 0), quoted("\n\xff", 0)}, `"" "\x0a\xff" `},
		{[]lex.Token{{Kind: lex.End}}, " "},
		{[]lex.Token{name("a", 0), {Kind: lex.End, At: 1}}, "a  "},
		// Tokens that may not be are printed the same way.
		{[]lex.Token{{Kind: lex.Number, Text: "01", N: 5}, name("if", 0), {Kind: lex.Number, N: 3}}, "01 if  "},
		{[]lex.Token{{Text: "@"}, {Kind: 7, Text: "\""}, {Kind: -1}, {Kind: lex.End, Text: "\n"}}, "@ \"  \n "},
		{[]lex.Token{{Kind: lex.Quoted, Text: "a", N: 9}}, `"a" `},
	} {
		if got := lex.Print(c.l); got != c.want {
			t.Errorf("Print(%v) is %q, not %q", c.l, got, c.want)
		}
	}
	long := strings.Repeat("a", 3000)
	if got := lex.Print([]lex.Token{quoted(long, 0), name(long, 0)}); got != `"`+long+`" `+long+" " {
		t.Error(len(got))
	}
}

// P5.2: a list that is handed in stays as it was, its spare room included.
func TestPrintLeavesItsList(t *testing.T) {
	l := []lex.Token{quoted("a\n", 3), name("b", 4), sign("(", 5)}
	before := slices.Clone(l)
	lex.Print(l[:2])
	if !slices.Equal(l, before) {
		t.Error(l)
	}
}

// again holds Tokens of Print of right tokens against them.
func again(t *testing.T, l []lex.Token) {
	t.Helper()
	got, at, e := lex.Tokens(lex.Print(l))
	if at != 0 || e != api.OK || len(got) != len(l)+1 || got[len(l)].Kind != lex.End {
		t.Fatalf("%v, printed, is %v, %d, %v", l, got, at, e)
	}
	for i, x := range l {
		x.At = got[i].At
		if got[i] != x {
			t.Errorf("%v, printed, is %v", x, got[i])
		}
	}
}

// P5.3: each right token alone, and each two side by side.
func TestTokensOfPrint(t *testing.T) {
	again(t, nil)
	for _, a := range rightOnes() {
		again(t, []lex.Token{a})
		for _, b := range rightOnes() {
			if len(lex.Print([]lex.Token{a, b})) <= 2000 {
				again(t, []lex.Token{a, b})
			}
		}
	}
}

// P5.3: long rows of right tokens, up to as many tokens and bytes as there may be.
func TestTokensOfLongPrints(t *testing.T) {
	right, d := rightOnes(), dice(9)
	for range 500 {
		var l []lex.Token
		bytes := 0
		for range d.upTo(601) {
			x := right[d.upTo(len(right))]
			x.At = d.upTo(2001)
			if n := len(lex.Print([]lex.Token{x})); bytes+n <= 2000 {
				l, bytes = append(l, x), bytes+n
			}
		}
		again(t, l)
	}
	again(t, slices.Repeat([]lex.Token{sign("==", 0)}, 600))
	again(t, slices.Repeat([]lex.Token{quoted("", 0)}, 600))
	refused(t, lex.Print(slices.Repeat([]lex.Token{sign(";", 0)}, 601)), 1200, api.ErrFull)
	refused(t, lex.Print(slices.Repeat([]lex.Token{quoted("ab", 0)}, 401)), 0, api.ErrLong)
	again(t, slices.Repeat([]lex.Token{quoted("ab", 0)}, 400))
}

// P5.3: what Tokens answers is right.
func TestTokensAreRight(t *testing.T) {
	l, _, e := lex.Tokens("let f = fn(a) { return a <= 010 && !\"x\\x00\"; }; // all\nprint f(4611686018427387903);")
	if e != api.OK {
		t.Fatal(e)
	}
	for _, x := range l {
		if !lex.Right(x) {
			t.Errorf("%v may come", x)
		}
	}
	again(t, l[:len(l)-1])
}
