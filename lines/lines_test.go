package lines_test

import (
	"fmt"
	"slices"
	"strings"
	"testing"

	"mailsack/lines"
)

func x(n int) string { return strings.Repeat("x", n) }

func TestP17_1Next(t *testing.T) {
	for _, c := range []struct {
		s, line, rest string
		want          int
	}{
		{"", "", "", lines.More}, {"a", "", "", lines.More}, {"a\r", "", "", lines.More}, {"a\n", "", "", lines.More}, {"\n\r", "", "", lines.More},
		{"\r\n", "", "", lines.Whole}, {"a\r\n", "a", "", lines.Whole}, {"a\r\nb", "a", "b", lines.Whole}, {"a\r\nb\r\n", "a", "b\r\n", lines.Whole},
		{"\r\n\r\n", "", "\r\n", lines.Whole}, {"a\nb\rc\r\nd", "a\nb\rc", "d", lines.Whole}, {"\r\r\n\n", "\r", "\n", lines.Whole}, {"\x00\xff\r\n", "\x00\xff", "", lines.Whole},
		{x(511), "", "", lines.More}, {x(512), "", "", lines.More}, {x(513), "", "", lines.TooLong}, {x(511) + "\r", "", "", lines.More}, {x(512) + "\r", "", "", lines.TooLong},
		{x(512) + "\r\n", x(512), "", lines.Whole}, {x(512) + "\r\nrest", x(512), "rest", lines.Whole}, {x(513) + "\r\n", "", "", lines.TooLong},
		{x(513) + "\r\nrest\r\n", "", "rest\r\n", lines.TooLong}, {x(5000) + "\r\n" + x(600), "", x(600), lines.TooLong}, {x(5000), "", "", lines.TooLong},
		{"a\r\n" + x(600), "a", x(600), lines.Whole}, {x(300) + "\n" + x(300), "", "", lines.TooLong},
	} {
		line, rest, got := lines.Next(c.s)
		if line != c.line || rest != c.rest || got != c.want {
			t.Errorf("Next(%.30q, %d bytes) = %.30q, %.30q, %d", c.s, len(c.s), line, rest, got)
		}
	}
	if lines.More != 0 || lines.Whole != 1 || lines.TooLong != 2 {
		t.Error("the constants")
	}
}

func TestP17_1Literal(t *testing.T) {
	for _, c := range []struct {
		line, text string
		n          int
	}{
		{"a {3}", "a ", 3}, {"{0}", "", 0}, {"{1}", "", 1}, {"a{9999}", "a", 9999}, {"a {3} {12}", "a {3} ", 12}, {"x{{7}", "x{", 7}, {"}{5}", "}", 5}, {"{a}{700}", "{a}", 700},
		{"\x00{10}", "\x00", 10},
	} {
		if text, n, ok := lines.Literal(c.line); text != c.text || n != c.n || !ok {
			t.Errorf("Literal(%q) = %q, %d, %v", c.line, text, n, ok)
		}
	}
	for _, line := range []string{
		"", "a", "{", "}", "{}", "a {3", "a 3}", "3}", "a {3} ", "{03}", "{00}", "{10000}", "{12345}", "{-1}", "{+1}", "{1 }", "{ 1}", "{a}", "{1a}", "{3}}", "{{3}}", "{3\x00}", "{1.5}",
		"{3+}", "{99999999999999999999}", "(3)", "}3{",
	} {
		if text, n, ok := lines.Literal(line); text != line || n != 0 || ok {
			t.Errorf("Literal(%q) = %q, %d, %v", line, text, n, ok)
		}
	}
}

type taken struct {
	texts, literals []string
	rest            string
	kind, count     int
}

func expect(t *testing.T, s string, want taken) {
	t.Helper()
	c, rest, kind, count := lines.Take(s)
	if !slices.Equal(c.Texts, want.texts) || !slices.Equal(c.Literals, want.literals) || rest != want.rest || kind != want.kind || count != want.count {
		t.Errorf("Take(%.60q, %d bytes) = %.60q, %.60q, %.30q, %d, %d, want %.60q", s, len(s), c.Texts, c.Literals, rest, kind, count, fmt.Sprint(want))
	}
}

func TestP17_2Whole(t *testing.T) {
	for s, want := range map[string]taken{
		"a b\r\n":                           {texts: []string{"a b"}, kind: lines.Whole},
		"\r\nrest":                          {texts: []string{""}, rest: "rest", kind: lines.Whole},
		"a {3}\r\nxyz b\r\n":                {texts: []string{"a ", " b"}, literals: []string{"xyz"}, kind: lines.Whole, count: 1},
		"a {3}\r\nxyz\r\nrest":              {texts: []string{"a ", ""}, literals: []string{"xyz"}, rest: "rest", kind: lines.Whole, count: 1},
		"{0}\r\n\r\n":                       {texts: []string{"", ""}, literals: []string{""}, kind: lines.Whole, count: 1},
		"a {4}\r\n\r\n\r\n b\r\nc\r\n":      {texts: []string{"a ", " b"}, literals: []string{"\r\n\r\n"}, rest: "c\r\n", kind: lines.Whole, count: 1},
		"a{1}\r\nxb{2}\r\nyyc\r\n":          {texts: []string{"a", "b", "c"}, literals: []string{"x", "yy"}, kind: lines.Whole, count: 2},
		"{1}\r\n1{1}\r\n2{1}\r\n3{1}\r\n4}": {kind: lines.More, count: 4},
		"{1}\r\n1{1}\r\n2{1}\r\n3{1}\r\n4!\r\n{1}\r\n": {texts: []string{"", "", "", "", "!"}, literals: []string{"1", "2", "3", "4"}, rest: "{1}\r\n",
			kind: lines.Whole, count: 4},
		"a {5}\r\n{3}\r\n\r\nb\r\n":     {texts: []string{"a ", ""}, literals: []string{"{3}\r\n"}, rest: "b\r\n", kind: lines.Whole, count: 1},
		"{700}\r\n" + x(700) + "\r\n":   {texts: []string{"", ""}, literals: []string{x(700)}, kind: lines.Whole, count: 1},
		x(512) + "\r\n":                 {texts: []string{x(512)}, kind: lines.Whole},
		x(509) + "{2}\r\nab" + "\r\n":   {texts: []string{x(509), ""}, literals: []string{"ab"}, kind: lines.Whole, count: 1},
		"a {03}\r\nb\r\n":               {texts: []string{"a {03}"}, rest: "b\r\n", kind: lines.Whole},
		"{2}\r\nab" + x(512) + "\r\nc":  {texts: []string{"", x(512)}, literals: []string{"ab"}, rest: "c", kind: lines.Whole, count: 1},
		"{2}\r\nab\r\n" + x(600) + "\r": {texts: []string{"", ""}, literals: []string{"ab"}, rest: x(600) + "\r", kind: lines.Whole, count: 1},
	} {
		expect(t, s, want)
	}
}

func TestP17_2More(t *testing.T) {
	for s, count := range map[string]int{
		"": 0, "a": 0, "a {3}": 0, "a {3}\r": 0, "a {3}\r\n": 1, "a {3}\r\nxy": 1, "a {3}\r\nxyz": 1, "a {3}\r\nxyz b": 1, "a {3}\r\nxyz\r": 1, "{1}\r\nx{0}\r\n": 2,
		"{1}\r\nx{2}\r\n": 2, "{1}\r\nx{2}": 1, x(512): 0, "{3}\r\nabc" + x(512): 1, "{700}\r\n" + x(699): 1, "{1}\r\n1{1}\r\n2{1}\r\n3{1}\r\n": 4, "{700}\r\n": 1,
	} {
		expect(t, s, taken{kind: lines.More, count: count})
	}
}

func TestP17_2TooLong(t *testing.T) {
	four := "{1}\r\n1{1}\r\n2{1}\r\n3{1}\r\n4"
	for s, want := range map[string]taken{
		x(513):                               {},
		x(513) + "\r\nrest":                  {rest: "rest"},
		"a {701}\r\n":                        {},
		"a {701}\r\nrest\r\n":                {rest: "rest\r\n"},
		"a {9999}\r\nrest":                   {rest: "rest"},
		"{1}\r\nx{701}\r\nrest":              {rest: "rest", count: 1},
		"{1}\r\nx" + x(513):                  {count: 1},
		"{1}\r\nx" + x(513) + "\r\nb\r\n":    {rest: "b\r\n", count: 1},
		four + "{1}\r\n5\r\n":                {rest: "5\r\n", count: 4},
		four + "{0}\r\n":                     {count: 4},
		four + "{900}\r\nrest":               {rest: "rest", count: 4},
		x(508) + "{10}" + "z" + "\r\n":       {},
		x(500) + "{1}\r\n" + "y" + x(513):    {count: 1},
		"{1}\r\ny{1}\r\nz" + x(600) + "\r\n": {count: 2},
	} {
		want.kind = lines.TooLong
		expect(t, s, want)
	}
}

func TestP17_3WhatFollows(t *testing.T) {
	for _, s := range []string{"a b\r\n", "\r\n", "a {3}\r\nxyz b\r\n", "{1}\r\n1{1}\r\n2{1}\r\n3{1}\r\n4\r\n", "{2}\r\n\r\n\r\n"} {
		c, rest, kind, count := lines.Take(s)
		if rest != "" || kind != lines.Whole {
			t.Errorf("Take(%q): %q, %d", s, rest, kind)
		}
		for _, more := range []string{"x", "\r\n", "\n", "{3}\r\n", x(1000), "b {9999}\r\n"} {
			d, rest, kind2, count2 := lines.Take(s + more)
			if !slices.Equal(c.Texts, d.Texts) || !slices.Equal(c.Literals, d.Literals) || rest != more || kind2 != kind || count2 != count {
				t.Errorf("Take(%q), followed by %.20q, changes", s, more)
			}
		}
		// Each piece before the whole command is not enough.
		for n := range len(s) {
			if _, _, kind, _ := lines.Take(s[:n]); kind != lines.More {
				t.Errorf("Take(%q) = %d", s[:n], kind)
			}
		}
	}
}
