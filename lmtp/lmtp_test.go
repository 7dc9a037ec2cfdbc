package lmtp_test

import (
	"reflect"
	"slices"
	"strings"
	"testing"

	"mailsack/lmtp"
)

var users = []string{"al", "bo", "cy", "di", "abcdefgh", "0"}

func same(a, b lmtp.State) bool {
	return slices.Equal(a.To, b.To) && a.Hello == b.Hello && a.HasFrom == b.HasFrom && a.Data == b.Data && a.Long == b.Long && a.From == b.From && a.Body == b.Body
}

func expect(t *testing.T, s lmtp.State, line string, want lmtp.State, reply string) {
	t.Helper()
	before := s
	before.To = slices.Clone(s.To)
	got, r := lmtp.Line(s, line, users)
	if !same(got, want) || r != reply {
		t.Errorf("Line(%v, %.40q) = %v, %q, want %v, %q", s, line, got, r, want, reply)
	}
	if !same(s, before) {
		t.Errorf("Line(%v, %.40q) changes its argument", s, line)
	}
}

var (
	fresh = lmtp.State{}
	hello = lmtp.State{Hello: true}
	from  = lmtp.State{Hello: true, HasFrom: true, From: "x@y"}
	to    = lmtp.State{Hello: true, HasFrom: true, From: "x@y", To: []string{"al"}}
	four  = lmtp.State{Hello: true, HasFrom: true, To: []string{"al", "bo", "al", "cy"}}
	text  = lmtp.State{Hello: true, HasFrom: true, Data: true, From: "x@y", To: []string{"al", "bo"}, Body: "A: b\r\n"}
	calm  = []lmtp.State{fresh, hello, from, to, four}
)

func TestP18_1Hello(t *testing.T) {
	for _, s := range calm {
		for _, line := range []string{"LHLO x", "lhlo x", "LhLo a b c", "LHLO  ", "LHLO \x00"} {
			expect(t, s, line, hello, "250 mailsack")
		}
		for _, line := range []string{"LHLO", "LHLO ", "lhlo"} {
			expect(t, s, line, s, "501 syntax")
		}
	}
}

func TestP18_1Mail(t *testing.T) {
	for line, address := range map[string]string{
		"MAIL FROM:<>": "", "mail from:<a@b>": "a@b", "MaIl FrOm:<any text>": "any text", "MAIL FROM:<\x00\xff>": "\x00\xff", "MAIL FROM:<@>": "@", "MAIL FROM:<a=b;c>": "a=b;c", "MAIL FROM:< >": " ",
	} {
		expect(t, hello, line, lmtp.State{Hello: true, HasFrom: true, From: address}, "250 ok")
		expect(t, lmtp.State{Hello: true, To: []string{"al"}}, line, lmtp.State{Hello: true, HasFrom: true, From: address}, "250 ok")
		for _, s := range []lmtp.State{fresh, from, to, four} {
			expect(t, s, line, s, "503 sequence")
		}
	}
	for _, line := range []string{
		"MAIL", "MAIL ", "MAIL <a>", "MAIL FROM", "MAIL FROM:", "MAIL FROM:a", "MAIL FROM:<a", "MAIL FROM:a>", "MAIL FROM: <a>", "MAIL  FROM:<a>", "MAIL FROM:<a> ", "MAIL FROM:<a> SIZE=5",
		"MAIL FROM:<<a>", "MAIL FROM:<a>>", "MAIL FROM:<a><b>", "MAIL FROM:<", "MAIL FROM:>", "MAIL FROM <a>", "MAIL TO:<a>", "MAIL FROM:<a>b",
	} {
		for _, s := range []lmtp.State{hello, from, to, four} {
			expect(t, s, line, s, "501 syntax")
		}
		expect(t, fresh, line, fresh, "503 sequence")
	}
}

func TestP18_1Rcpt(t *testing.T) {
	for line, user := range map[string]string{
		"RCPT TO:<al>": "al", "rcpt to:<bo@here>": "bo", "RcPt tO:<0@>": "0", "RCPT TO:<abcdefgh@a@b c>": "abcdefgh", "RCPT TO:<al@\x00>": "al",
	} {
		want := from
		want.To = []string{user}
		expect(t, from, line, want, "250 ok")
		want.To = []string{"al", user}
		expect(t, to, line, want, "250 ok")
		expect(t, four, line, four, "452 too many")
		for _, s := range []lmtp.State{fresh, hello} {
			expect(t, s, line, s, "503 sequence")
		}
	}
	for _, line := range []string{"RCPT TO:<xy>", "RCPT TO:<a>", "RCPT TO:<all@here>", "rcpt to:<abcdefg>"} {
		for _, s := range []lmtp.State{from, to, four} {
			expect(t, s, line, s, "550 no such user")
		}
		expect(t, hello, line, hello, "503 sequence")
	}
	for _, line := range []string{
		"RCPT", "RCPT ", "RCPT <al>", "RCPT TO:", "RCPT TO:al", "RCPT TO:<al", "RCPT TO:al>", "RCPT TO: <al>", "RCPT  TO:<al>", "RCPT TO:<al> ", "RCPT TO:<al>x", "RCPT TO:<<al>>", "RCPT TO:<>",
		"RCPT TO:<Al>", "RCPT TO:<@here>", "RCPT TO:<al bo>", "RCPT TO:<abcdefghi>", "RCPT TO:< al>", "RCPT FROM:<al>", "RCPT TO:<al@<>", "RCPT TO:<al.b@x>", "RCPT TO:<al@x>y>",
	} {
		for _, s := range []lmtp.State{from, to, four} {
			expect(t, s, line, s, "501 syntax")
		}
		for _, s := range []lmtp.State{fresh, hello} {
			expect(t, s, line, s, "503 sequence")
		}
	}
	if _, r := lmtp.Line(from, "RCPT TO:<al>", nil); r != "550 no such user" {
		t.Errorf("without users: %q", r)
	}
}

func TestP18_1RecipientsDoNotMeet(t *testing.T) {
	s := from
	for range 3 {
		s, _ = lmtp.Line(s, "RCPT TO:<al>", users)
		one, _ := lmtp.Line(s, "RCPT TO:<bo>", users)
		two, _ := lmtp.Line(s, "RCPT TO:<cy>", users)
		if one.To[len(one.To)-1] != "bo" || two.To[len(two.To)-1] != "cy" {
			t.Errorf("two states share their recipients: %v, %v", one.To, two.To)
		}
	}
}

func TestP18_1Data(t *testing.T) {
	for _, line := range []string{"DATA", "data", "dAtA"} {
		for _, s := range []lmtp.State{to, four} {
			want := s
			want.Data = true
			expect(t, s, line, want, "354 go on")
		}
		for _, s := range []lmtp.State{fresh, hello, from} {
			expect(t, s, line, s, "503 sequence")
		}
	}
	for _, s := range calm {
		for _, line := range []string{"DATA ", "data x", "RSET ", "RSET x", "QUIT ", "quit now"} {
			expect(t, s, line, s, "501 syntax")
		}
	}
}

func TestP18_1Others(t *testing.T) {
	for _, s := range calm {
		for _, line := range []string{"RSET", "rset"} {
			expect(t, s, line, lmtp.State{Hello: s.Hello}, "250 ok")
		}
		for _, line := range []string{"NOOP", "noop", "NOOP ", "NoOp any thing"} {
			expect(t, s, line, s, "250 ok")
		}
		for _, line := range []string{"QUIT", "quit"} {
			expect(t, s, line, s, "221 bye")
		}
		for _, line := range []string{
			"", " ", ".", "x", "NOO", "NOOPS", "NOOP\tx", " NOOP", "HELO x", "EHLO x", "VRFY al", "QUITE", "QUIT\r", "RSETT", "LHLOx", "DATA\t", "MAILFROM:<>", "\xff\xff\xff\xff", "NO OP", "RCPTTO:<al>",
		} {
			expect(t, s, line, s, "500 what")
		}
	}
}

func TestP18_1Text(t *testing.T) {
	for line, more := range map[string]string{
		"": "\r\n", "a": "a\r\n", "..": ".\r\n", "...": "..\r\n", ".a": "a\r\n", ". ": " \r\n", " .": " .\r\n", "a.": "a.\r\n", "QUIT": "QUIT\r\n", "DATA": "DATA\r\n", "\x00\xff\n": "\x00\xff\n\r\n", "RSET": "RSET\r\n",
	} {
		want := text
		want.Body += more
		expect(t, text, line, want, "")
		if lmtp.Ended(text, line) {
			t.Errorf("%q ends a text", line)
		}
	}
}

func TestP18_1Long(t *testing.T) {
	s := text
	s.Body = ""
	body := ""
	for _, n := range []int{500, 100, 94} {
		line := strings.Repeat("x", n)
		body += line + "\r\n"
		want := s
		want.Body = body
		expect(t, s, line, want, "")
		s, _ = lmtp.Line(s, line, users)
	}
	if len(s.Body) != 700 || s.Long {
		t.Fatalf("700 bytes: %d, %v", len(s.Body), s.Long)
	}
	want := s
	want.Long = true
	for _, line := range []string{"", "x", ".", "..", strings.Repeat("y", 500)} {
		if line == "." {
			continue
		}
		expect(t, s, line, want, "")
		expect(t, want, line, want, "")
	}
	almost := s
	almost.Body = s.Body[:698]
	expect(t, almost, "", lmtp.State{Hello: true, HasFrom: true, Data: true, From: "x@y", To: s.To, Body: s.Body[:698] + "\r\n"}, "")
	for _, c := range []struct {
		n    int
		line string
		tail string
	}{{699, "", "\r"}, {698, "ab", "ab"}, {698, "a", "a\r"}, {690, strings.Repeat("z", 20), strings.Repeat("z", 10)}, {699, "..", "."}} {
		short := s
		short.Body = s.Body[:c.n]
		got, reply := lmtp.Line(short, c.line, users)
		whole := short.Body + c.tail
		if !got.Long || !got.Data || reply != "" || len(got.Body) > 700 || !strings.HasPrefix(whole, got.Body) || !slices.Equal(got.To, short.To) {
			t.Errorf("%d bytes and %q: %v, %q", c.n, c.line, got, reply)
		}
	}
}

func TestP18_1Ended(t *testing.T) {
	for _, c := range []struct {
		s    lmtp.State
		line string
		want bool
	}{
		{text, ".", true}, {text, "", false}, {text, "..", false}, {text, ". ", false}, {text, " .", false}, {text, ".\r", false}, {to, ".", false}, {fresh, ".", false}, {lmtp.State{Data: true, Long: true}, ".", true},
	} {
		if got := lmtp.Ended(c.s, c.line); got != c.want {
			t.Errorf("Ended(%v, %q) = %v", c.s, c.line, got)
		}
	}
	expect(t, text, ".", text, "")
	long := text
	long.Long = true
	expect(t, long, ".", long, "")
}

func TestP18_1Done(t *testing.T) {
	long := text
	long.Long = true
	for _, s := range append(slices.Clone(calm), text, long, lmtp.State{Data: true, Body: "x"}) {
		if got := lmtp.Done(s); !reflect.DeepEqual(got, lmtp.State{Hello: s.Hello}) {
			t.Errorf("Done(%v) = %v", s, got)
		}
	}
}

// A long run: a line without a reply belongs to a text, and a text has a From and a recipient.
func TestP18_2Run(t *testing.T) {
	script := []string{"LHLO x", "MAIL FROM:<a>", "RCPT TO:<al>", "RCPT TO:<no>", "DATA", "text", "", "..", "RSET", "NOOP", "QUIT", ".", "MAIL FROM:<>", "RCPT TO:<bo@x>", "what", "DATA x"}
	seed := uint32(3)
	var s lmtp.State
	texts := 0
	for range 20000 {
		seed = seed*1664525 + 1013904223
		line := script[int(seed>>12)%len(script)]
		if lmtp.Ended(s, line) {
			texts++
			s = lmtp.Done(s)
			continue
		}
		next, reply := lmtp.Line(s, line, users)
		if (reply == "") != s.Data {
			t.Fatalf("Line(%v, %q): reply %q", s, line, reply)
		}
		if next.Data && (!next.HasFrom || len(next.To) == 0 || !next.Hello) || len(next.To) > 4 || len(next.Body) > 700 {
			t.Fatalf("Line(%v, %q) = %v", s, line, next)
		}
		if strings.ContainsAny(reply, "\r\n") {
			t.Fatalf("reply %q", reply)
		}
		s = next
	}
	if texts == 0 {
		t.Error("no text was received")
	}
}
