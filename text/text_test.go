package text_test

import (
	"regexp"
	"strconv"
	"strings"
	"testing"

	"proteus/api"
	"proteus/text"
)

// allBytes is each byte once, in order.
func allBytes() string {
	var l [256]byte
	for i := range l {
		l[i] = byte(i)
	}
	return string(l[:])
}

// samples are strings of all kinds of bytes, short and long.
func samples() []string {
	l := []string{
		"", " ", "~", "a", "a b", `"`, `\`, `\"`, `"\`, `\x41`, `\\`, `""`, "\n", "\x00", "\x7f", "\x1f", "\xff",
		"x", "41", `\n`, "é", "日本", "\xc3", "'`", allBytes(), strings.Repeat("\x00\"\\a", 500),
	}
	n := uint64(7)
	for range 40 {
		b := make([]byte, n>>33%20)
		for i := range b {
			n = n*6364136223846793005 + 1442695040888963407
			b[i] = byte(n >> 40)
		}
		n = n*6364136223846793005 + 1442695040888963407
		l = append(l, string(b))
	}
	return l
}

// P2.1
func TestQuote(t *testing.T) {
	for s, want := range map[string]string{
		"":              `""`,
		"a b":           `"a b"`,
		" ~":            `" ~"`,
		`"`:             `"\""`,
		`\`:             `"\\"`,
		`\x41`:          `"\\x41"`,
		"\n":            `"\x0a"`,
		"\x00\x1f\x7f":  `"\x00\x1f\x7f"`,
		"\x80\xab\xff":  `"\x80\xab\xff"`,
		"é":             `"\xc3\xa9"`,
		"'/0az_":        `"'/0az_"`,
		"tab\there\r\n": `"tab\x09here\x0d\x0a"`,
	} {
		if got := text.Quote(s); got != want {
			t.Errorf("Quote(%q) is %s, not %s", s, got, want)
		}
	}
}

// P2.1: each byte alone, and all of them in a row.
func TestQuoteOfEachByte(t *testing.T) {
	row := ""
	for i := range 256 {
		s := string([]byte{byte(i)})
		want := s
		switch {
		case i == 34:
			want = `\"`
		case i == 92:
			want = `\\`
		case i < 16:
			want = `\x0` + strconv.FormatInt(int64(i), 16)
		case i < 32 || i > 126:
			want = `\x` + strconv.FormatInt(int64(i), 16)
		}
		row += want
		if got := text.Quote(s); got != `"`+want+`"` {
			t.Errorf("Quote of byte %d is %s", i, got)
		}
	}
	if got := text.Quote(allBytes()); got != `"`+row+`"` {
		t.Errorf("Quote of all bytes is %s", got)
	}
}

// P2.2
func TestTake(t *testing.T) {
	for _, c := range []struct {
		s, want string
		n       int
	}{
		{`""`, "", 2},
		{`"a b"`, "a b", 5},
		{`"\""`, `"`, 4},
		{`"\\"`, `\`, 4},
		{`"\x22"`, `"`, 6},
		{`"\x5c"`, `\`, 6},
		{`"\x5C"`, `\`, 6},
		{`"\x41b"`, "Ab", 7},
		{`"\x000"`, "\x000", 7},
		{`"\xaF\xFa"`, "\xaf\xfa", 10},
		{`"\xff\xFF"`, "\xff\xff", 10},
		{`"\\x41"`, `\x41`, 7},
		{`"\\\""`, `\"`, 6},
		{`" ~!#[]"`, " ~!#[]", 8},
		{`"x"`, "x", 3},
		// What is behind a string is not asked.
		{`"""`, "", 2},
		{`""\`, "", 2},
		{`"a"b"`, "a", 3},
		{"\"a\"\x00\n\xff", "a", 3},
		{`"a" + "b";`, "a", 3},
	} {
		if got, n, e := text.Take(c.s); got != c.want || n != c.n || e != api.OK {
			t.Errorf("Take(%q) is %q, %d, %v", c.s, got, n, e)
		}
	}
}

// P2.2: each byte by \x, with digits of both cases.
func TestTakeOfEachNumber(t *testing.T) {
	for _, digits := range []string{"0123456789abcdef", "0123456789ABCDEF"} {
		for i := range 256 {
			s := `"\x` + digits[i/16:i/16+1] + digits[i%16:i%16+1] + `"`
			if got, n, e := text.Take(s); got != string([]byte{byte(i)}) || n != 6 || e != api.OK {
				t.Errorf("Take(%s) is %q, %d, %v", s, got, n, e)
			}
		}
	}
}

// P2.2: no " at the beginning.
func TestTakeOfNoString(t *testing.T) {
	for i := range 256 {
		if i == 34 {
			continue
		}
		refused(t, string([]byte{byte(i)}), 0)
		refused(t, string([]byte{byte(i)})+`"a"`, 0)
	}
}

// P2.2: the text ends, at each place where it can.
func TestTakeOfAnEnd(t *testing.T) {
	for _, s := range []string{`"`, `"a\"\\b\x41\xfFc"`, `"\x00"`, `"\""`, `"\\"`, `"long and plain"`} {
		for i := range len(s) {
			refused(t, s[:i], i)
		}
	}
}

// P2.2: each byte that can't stand there, at each place where there can be one.
func TestTakeOfAWrongByte(t *testing.T) {
	for _, c := range []struct{ ahead, may string }{
		{`"`, "\"\\" + plainBytes()},
		{`"a`, "\"\\" + plainBytes()},
		{`"\\`, "\"\\" + plainBytes()},
		{`"\x41`, "\"\\" + plainBytes()},
		{`"\`, `x"\`},
		{`"a\x0f\`, `x"\`},
		{`"\x`, "0123456789abcdefABCDEF"},
		{`"\x4`, "0123456789abcdefABCDEF"},
		{`"b\"\xF`, "0123456789abcdefABCDEF"},
	} {
		for i := range 256 {
			if strings.IndexByte(c.may, byte(i)) < 0 {
				refused(t, c.ahead+string([]byte{byte(i)})+`00"`, len(c.ahead))
				refused(t, c.ahead+string([]byte{byte(i)}), len(c.ahead))
			}
		}
	}
}

func plainBytes() string {
	s := allBytes()[32:127]
	return strings.NewReplacer(`"`, "", `\`, "").Replace(s)
}

func refused(t *testing.T, s string, at int) {
	t.Helper()
	if got, n, e := text.Take(s); got != "" || n != at || e != api.ErrWord {
		t.Errorf("Take(%q) is %q, %d, %v; not refused at %d", s, got, n, e, at)
	}
}

// P2.2: all short texts over the bytes that count, held against the grammar of the chapter as patterns.
func TestTakeOfAllShortTexts(t *testing.T) {
	const part = `(?:[ !#-\[\]-~]|\\["\\]|\\x[0-9a-fA-F]{2})*`
	full := regexp.MustCompile(`^"` + part + `"`)
	begun := regexp.MustCompile(`^"` + part + `(?:\\(?:x[0-9a-fA-F]?)?)?`)
	begun.Longest()
	last := []string{""}
	for range 6 {
		var next []string
		for _, s := range last {
			for _, b := range []string{`"`, `\`, "x", "4", "F", "g", "\n"} {
				next = append(next, s+b)
			}
		}
		for _, s := range next {
			got, n, e := text.Take(s)
			if m := full.FindString(s); m != "" {
				if n != len(m) || e != api.OK || got != unquoted(t, m) {
					t.Fatalf("Take(%q) is %q, %d, %v", s, got, n, e)
				}
				continue
			}
			refused(t, s, len(begun.FindString(s)))
		}
		last = next
	}
}

// unquoted leans on Go's own strings, of whose writing the one of the chapter is a part.
func unquoted(t *testing.T, s string) string {
	t.Helper()
	u, err := strconv.Unquote(s)
	if err != nil {
		t.Fatal(s, err)
	}
	return u
}

// P2.3
func TestIsName(t *testing.T) {
	for _, s := range []string{
		"a", "z", "A", "Z", "_", "a1", "_9", "Zz_09", "a0123456789b", "____________", "abcdefghijkl", "let", "null",
	} {
		if !text.IsName(s) {
			t.Errorf("%q is a name", s)
		}
	}
	for _, s := range []string{
		"", "0", "9", "1a", "0_", "a-b", "a b", " a", "a ", "a.b", "a\x00", "a\n", "é", "a\xff",
		"abcdefghijklm", "_____________", "a01234567890b", strings.Repeat("a", 5000),
	} {
		if text.IsName(s) {
			t.Errorf("%q is no name", s)
		}
	}
}

// P2.3: each byte, as the first one and behind it, at each length.
func TestIsNameOfEachByte(t *testing.T) {
	first := regexp.MustCompile(`^[a-zA-Z_]$`)
	other := regexp.MustCompile(`^[a-zA-Z_0-9]$`)
	for i := range 256 {
		b := string([]byte{byte(i)})
		if got := text.IsName(b); got != first.MatchString(b) {
			t.Errorf("byte %d alone: %v", i, got)
		}
		for n := range 14 {
			if got := text.IsName(b + strings.Repeat("b", n)); got != (first.MatchString(b) && n < 12) {
				t.Errorf("byte %d ahead of %d: %v", i, n, got)
			}
			if got := text.IsName("b" + strings.Repeat("b", n) + b); got != (other.MatchString(b) && n < 11) {
				t.Errorf("byte %d behind %d: %v", i, n+1, got)
			}
		}
	}
}

// P2.4: what is quoted is taken, whatever is behind it.
func TestTakeOfQuote(t *testing.T) {
	for _, s := range samples() {
		q := text.Quote(s)
		for _, behind := range samples() {
			if got, n, e := text.Take(q + behind); got != s || n != len(q) || e != api.OK {
				t.Errorf("Take(%q) is %q, %d, %v", q+behind, got, n, e)
			}
		}
	}
}

// P2.4: what was taken, quoted and taken again, is the same string, however it was written.
func TestQuoteOfTaken(t *testing.T) {
	for _, s := range []string{`""`, `"\x41\x22\x5C"`, `"\xAb\"\\"`, `"\x61 \x0A" behind`, `"plain"`} {
		first, _, e := text.Take(s)
		if e != api.OK {
			t.Fatal(s, e)
		}
		q := text.Quote(first)
		if again, n, e := text.Take(q); again != first || n != len(q) || e != api.OK {
			t.Errorf("%s: %q, %d, %v", s, again, n, e)
		}
	}
}
