package verb_test

import (
	"slices"
	"strings"
	"testing"

	"mailsack/api"
	"mailsack/lines"
	"mailsack/verb"
)

func w(s string) verb.Token { return verb.Token{Kind: verb.Word, Text: s} }
func q(s string) verb.Token { return verb.Token{Kind: verb.Text, Text: s} }

var (
	open  = verb.Token{Kind: verb.Open}
	close = verb.Token{Kind: verb.Close}
)

func line(s string) lines.Command { return lines.Command{Texts: []string{s}} }

func expect(t *testing.T, c lines.Command, want ...verb.Token) {
	t.Helper()
	got, errno := verb.Tokens(c)
	if errno != api.OK || !slices.Equal(got, want) {
		t.Errorf("Tokens(%q) = %v, %d, want %v", c, got, errno, want)
	}
}

func refused(t *testing.T, c lines.Command) {
	t.Helper()
	if got, errno := verb.Tokens(c); errno != api.ErrForm || len(got) != 0 {
		t.Errorf("Tokens(%.60q) = %v, %d", c, got, errno)
	}
}

func TestP21_1Tokens(t *testing.T) {
	if verb.Word != 0 || verb.Text != 1 || verb.Open != 2 || verb.Close != 3 {
		t.Error("the constants")
	}
	for s, want := range map[string][]verb.Token{
		"":                        nil,
		" ":                       nil,
		"   ":                     nil,
		"a":                       {w("a")},
		"a b":                     {w("a"), w("b")},
		"  a   b ":                {w("a"), w("b")},
		`a LOGIN "x y" (z)`:       {w("a"), w("LOGIN"), q("x y"), open, w("z"), close},
		"()":                      {open, close},
		"((a)(b))c":               {open, open, w("a"), close, open, w("b"), close, close, w("c")},
		"a(b)c":                   {w("a"), open, w("b"), close, w("c")},
		`""`:                      {q("")},
		`"a""b"`:                  {q("a"), q("b")},
		`a"b"c`:                   {w("a"), q("b"), w("c")},
		`"(a)" ")" "("`:           {q("(a)"), q(")"), q("(")},
		`"a\\b" "\"" "\\" "\\\""`: {q(`a\b`), q(`"`), q(`\`), q(`\"`)},
		`a\b \ \\ \"x"`:           {w(`a\b`), w(`\`), w(`\\`), w(`\`), q("x")},
		"BODY[] {3} * %~!":        {w("BODY[]"), w("{3}"), w("*"), w("%~!")},
		`+FLAGS.SILENT (\Seen)`:   {w("+FLAGS.SILENT"), open, w(`\Seen`), close},
		`(" ")`:                   {open, q(" "), close},
	} {
		expect(t, line(s), want...)
	}
}

func TestP21_1Literals(t *testing.T) {
	expect(t, lines.Command{Texts: []string{"a ", " b"}, Literals: []string{"x y"}}, w("a"), q("x y"), w("b"))
	expect(t, lines.Command{Texts: []string{"", ""}, Literals: []string{""}}, q(""))
	expect(t, lines.Command{Texts: []string{"a", "b", ""}, Literals: []string{"1", "2"}}, w("a"), q("1"), w("b"), q("2"))
	expect(t, lines.Command{Texts: []string{"(", ")"}, Literals: []string{")("}}, open, q(")("), close)
	expect(t, lines.Command{Texts: []string{`"x"`, `"y"`}, Literals: []string{"\x00\xff\r\n\"\\"}}, q("x"), q("\x00\xff\r\n\"\\"), q("y"))
	for _, c := range []lines.Command{
		{}, {Literals: []string{"x"}}, {Texts: []string{"a", "b"}}, {Texts: []string{"a"}, Literals: []string{"x"}}, {Texts: []string{"a", "b"}, Literals: []string{"x", "y"}},
		{Texts: []string{`"a`, `b"`}, Literals: []string{"x"}}, {Texts: []string{"(", ""}, Literals: []string{")"}}, {Texts: []string{"a", "\x1f"}, Literals: []string{"x"}},
		{Texts: []string{")", "("}, Literals: []string{"x"}}, {Texts: []string{`a"\`, `"`}, Literals: []string{"x"}},
	} {
		refused(t, c)
	}
}

func TestP21_1Errors(t *testing.T) {
	for _, s := range []string{
		`"`, `"a`, `a"`, `"a" "`, `"a\"`, `"\`, `"a\b"`, `"\ "`, `"\(`, `"\n"`, "(", ")", ")(", "(()", "())", "a)", "(a", `(")"`, `("a`, "a\tb", "a\x00", "\x7f", "a\x80b", "é", "\x1f", "\r", "\n", "\"a\tb\"", "\"\xff\"",
	} {
		refused(t, line(s))
	}
	for c := range 256 {
		s := "a" + string([]byte{byte(c)}) + "b"
		_, errno := verb.Tokens(line(s))
		want := c >= 32 && c <= 126 && c != '(' && c != ')' && c != '"'
		if (errno == api.OK) != want {
			t.Errorf("byte %d: %d", c, errno)
		}
		_, errno = verb.Tokens(line(`"` + s + `"`))
		want = c >= 32 && c <= 126 && c != '"' && c != '\\'
		if (errno == api.OK) != want {
			t.Errorf("byte %d in quotes: %d", c, errno)
		}
	}
}

func TestP21_1Forty(t *testing.T) {
	forty := slices.Repeat([]verb.Token{w("a")}, 40)
	expect(t, line(strings.Repeat("a ", 40)), forty...)
	refused(t, line(strings.Repeat("a ", 41)))
	refused(t, line(strings.Repeat("a ", 1000)))
	if got, errno := verb.Tokens(line(strings.Repeat("()", 20))); errno != api.OK || len(got) != 40 {
		t.Errorf("40 parentheses: %d, %d", len(got), errno)
	}
	refused(t, line(strings.Repeat("()", 20)+"a"))
	refused(t, line(strings.Repeat("()", 21)))
	refused(t, line(strings.Repeat(`""`, 41)))
	refused(t, line(strings.Repeat("(", 20)+strings.Repeat(")", 21)))
	if got, errno := verb.Tokens(line(strings.Repeat("(", 20) + strings.Repeat(")", 20))); errno != api.OK || len(got) != 40 {
		t.Errorf("20 levels: %d, %d", len(got), errno)
	}
	expect(t, lines.Command{Texts: []string{strings.Repeat("a ", 39), ""}, Literals: []string{"x"}}, append(slices.Clone(forty[:39]), q("x"))...)
	refused(t, lines.Command{Texts: []string{strings.Repeat("a ", 40), ""}, Literals: []string{"x"}})
	refused(t, lines.Command{Texts: []string{strings.Repeat("a ", 39), "b"}, Literals: []string{"x"}})
}

func TestP21_1Upper(t *testing.T) {
	for s, want := range map[string]string{"": "", "aZ09": "AZ09", "abcxyz": "ABCXYZ", "`{@[": "`{@[", "é\xe9\xff\x00": "é\xe9\xff\x00", "a b-c_D": "A B-C_D", "ſß": "ſß"} {
		if got := verb.Upper(s); got != want {
			t.Errorf("Upper(%q) = %q", s, got)
		}
	}
}

func TestP21_1Quote(t *testing.T) {
	for s, want := range map[string]string{
		"": `""`, "a": "a", "a/b-C_9": "a/b-C_9", "a b": `"a b"`, " ": `" "`, "(": `"("`, ")": `")"`, `"`: `"\""`, `\`: `\`, `a\b`: `a\b`, `a\ b"`: `"a\\ b\""`, "a(b": `"a(b"`, "{3}": "{3}", "*": "*", "~!#": "~!#",
		"\x00": "{1}\r\n\x00", "a\r\nb": "{4}\r\na\r\nb", "é": "{2}\r\né", "a\x7f": "{2}\r\na\x7f", "\x1f ": "{2}\r\n\x1f ", `"` + "\xff" + `\`: "{3}\r\n\"\xff\\", "\t": "{1}\r\n\t",
		strings.Repeat("\xff", 1234): "{1234}\r\n" + strings.Repeat("\xff", 1234),
	} {
		if got := verb.Quote(s); got != want {
			t.Errorf("Quote(%.30q) = %.30q, want %.30q", s, got, want)
		}
	}
	for c := range 256 {
		s := "a" + string([]byte{byte(c)})
		want := s
		switch {
		case c < 32 || c > 126:
			want = "{2}\r\n" + s
		case c == '"':
			want = `"a\""`
		case c == ' ' || c == '(' || c == ')':
			want = `"` + s + `"`
		}
		if got := verb.Quote(s); got != want {
			t.Errorf("Quote(%q) = %q", s, got)
		}
	}
}

func TestP21_2QuoteAndRead(t *testing.T) {
	bytes := []byte("ab \\\"()[]*%{}\x00\r\n\xff7")
	seed := uint32(5)
	for range 5000 {
		var s []byte
		seed = seed*1664525 + 1013904223
		for range int(seed>>20) % 7 {
			seed = seed*1664525 + 1013904223
			s = append(s, bytes[int(seed>>16)%len(bytes)])
		}
		if strings.HasSuffix(string(s), "}") {
			continue
		}
		c, rest, found, _ := lines.Take(verb.Quote(string(s)) + "\r\n")
		got, errno := verb.Tokens(c)
		if found != lines.Whole || rest != "" || errno != api.OK || len(got) != 1 || got[0].Text != string(s) || got[0].Kind != verb.Word && got[0].Kind != verb.Text {
			t.Errorf("%q is quoted as %q and read as %v, %d", s, verb.Quote(string(s)), got, errno)
		}
	}
}
