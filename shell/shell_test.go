package shell_test

import (
	"encoding/hex"
	"fmt"
	"strings"
	"testing"

	"mailsack/shell"
)

// told returns the report of a byte string; / stands for CR LF.
func told(s string) string {
	if s == "" {
		return "ok -"
	}
	return "ok " + hex.EncodeToString([]byte(strings.ReplaceAll(s, "/", "\r\n")))
}

// step is a line of a script and its report.
type step struct{ line, report string }

func expect(t *testing.T, steps []step) {
	t.Helper()
	script, report := "", ""
	for _, s := range steps {
		script += s.line + "\n"
		report += s.report + "\n"
		// P24.2: the report of a script starts with that of each of its prefixes.
		if got := shell.Run(script); got != report {
			t.Fatalf("behind %q: %q, want %q", s.line, strings.TrimPrefix(got, report[:len(report)-len(s.report)-1]), s.report)
		}
	}
	if got := shell.Run(strings.TrimSuffix(script, "\n")); got != report {
		t.Error("without the last byte 10: another report")
	}
	if shell.Run(script) != shell.Run(script) {
		t.Error("the same script, another report")
	}
}

// The ten examples of DOC.md.
func TestP24_1Examples(t *testing.T) {
	expect(t, []step{
		{"imap", "ok 1"}, {"say 1 a NOOP", told("a OK/")}, {"say 1 b", told("* BAD/")},
		{"say 1 c SELECT INBOX", told("c BAD/")},
		{"user al pw", "ok"}, {"user al pw", "error 8"}, {"user Al pw", "error 1"},
		{"lmtp", "ok 2"}, {"say 2 LHLO x", told("250 mailsack/")}, {"say 2 MAIL FROM:<>", told("250 ok/")}, {"say 2 RCPT TO:<al@here>", told("250 ok/")}, {"say 2 RCPT TO:<bo>", told("550 no such user/")},
		{"say 2 DATA", told("354 go on/")}, {"say 2 Subject: a", "ok -"}, {"say 2 ", "ok -"}, {"say 2 text", "ok -"}, {"say 2 .", told("250 ok/")},
		{"say 1 d LOGIN al no", told("d NO/")}, {"say 1 e LOGIN al pw", told("e OK/")}, {"say 1 f EXAMINE inbox", told("* 1 EXISTS/* 1 RECENT/* OK [UIDVALIDITY 1]/* OK [UIDNEXT 2]/f OK/")},
		{"say 1 g FETCH 1 (RFC822.SIZE BODY[TEXT])", told("* 1 FETCH (RFC822.SIZE 20 BODY[TEXT] {6}/text/)/g OK/")},
		{"say 1 h SEARCH SUBJECT A", told("* SEARCH 1/h OK/")}, {"say 1 i SEARCH SEEN", told("* SEARCH/i OK/")},
		{"crash", "ok"}, {"who", "ok"}, {"say 1 x", "error 6"}, {"imap", "ok 3"},
		{"say 3 a LOGIN al {2}", told("+ /")}, {"say 3 pw", told("a OK/")}, {"say 3 b LOGOUT", told("* BYE/b OK/")}, {"shut 3", "error 6"},
	})
	if got := shell.Run("imap\nsay 1 a NOOP"); got != "ok 1\nok 61204f4b0d0a\n" {
		t.Errorf("the chapter's examples: %q", got)
	}
}

func TestP24_1Lines(t *testing.T) {
	for script, want := range map[string]string{
		"": "", "\n": "error 3\n", "\n\n": "error 3\nerror 3\n", "imap": "ok 1\n", "imap\n": "ok 1\n", "imap\n\n": "ok 1\nerror 3\n", "\nimap": "error 3\nok 1\n", "imap\r\n": "error 3\n", "who": "ok\n", "crash": "ok\n",
		"lmtp\nimap\nwho": "ok 1\nok 2\nok 1 2\n", "seed x": "ok\n", "seed x\nseed x": "ok\nerror 3\n", "who\nseed x": "ok\nerror 3\n", "seed": "error 3\n", "seed ": "error 3\n", "seed a b": "error 3\n", "seed  a": "error 3\n",
		"seed a ": "error 3\n", " seed a": "error 3\n", "Seed a": "error 3\n", "seed \xff\x00": "ok\n", "seed\nseed x": "error 3\nerror 3\n",
	} {
		if got := shell.Run(script); got != want {
			t.Errorf("Run(%q) = %q, want %q", script, got, want)
		}
	}
}

func TestP24_1Forms(t *testing.T) {
	for _, line := range []string{
		"", " ", "x", "imap ", " imap", "imap 1", "IMAP", "lmtp ", "lmtp x", "crash ", "crash now", "crash 0", "who ", "who 1", "user", "user al", "user al pw x", "User al pw", "users al pw", "say", "say ", "say x", "say  1",
		"say 0 x", "say 01 x", "say 1000 x", "say -1 x", "say +1 x", "say 1x y", "say a b", "SAY 1 x", "saying 1", "raw", "raw ", "raw x 61", "raw 0 61", "raw 01 61", "raw 1000 61", "raw 1 6", "raw 1 616", "raw 1 6g", "raw 1 g6",
		"raw 1 0x61", "raw 1 61 62", "raw 1 6 1", "raw 1 61 ", "raw 1  61", "raw 1 é", "raw  1 61", "shut", "shut ", "shut x", "shut 0", "shut 01", "shut 1000", "shut 1 ", "shut 1 2", "shut  1", "seed x", "say1 x", "say\t1", "\xff",
		"say 1.0 x", "say １ x",
	} {
		if got := shell.Run("imap\n" + line + "\nsay 1 a NOOP"); got != "ok 1\nerror 3\nok 61204f4b0d0a\n" {
			t.Errorf("%q: %q", line, got)
		}
	}
}

func TestP24_1Clients(t *testing.T) {
	expect(t, []step{
		{"imap", "ok 1"}, {"lmtp", "ok 2"}, {"imap", "ok 3"}, {"imap", "ok 4"}, {"imap", "error 5"}, {"lmtp", "error 5"}, {"who", "ok 1 2 3 4"}, {"shut 3", "ok"}, {"shut 3", "error 6"}, {"say 3 x", "error 6"}, {"raw 3 ", "error 6"},
		{"shut 999", "error 6"}, {"say 999 x", "error 6"}, {"raw 100 61", "error 6"}, {"who", "ok 1 2 4"}, {"lmtp", "ok 5"}, {"who", "ok 1 2 4 5"}, {"say 2 QUIT", told("221 bye/")}, {"who", "ok 1 4 5"}, {"say 4 a LOGOUT", told("* BYE/a OK/")},
		{"who", "ok 1 5"}, {"crash", "ok"}, {"who", "ok"}, {"lmtp", "ok 6"}, {"who", "ok 6"}, {"shut 6", "ok"}, {"who", "ok"},
	})
}

func TestP24_1Say(t *testing.T) {
	expect(t, []step{
		{"lmtp", "ok 1"}, {"say 1", told("500 what/")}, {"say 1 ", told("500 what/")}, {"say 1  NOOP", told("500 what/")}, {"say 1 NOOP ", told("250 ok/")}, {"say 1 NOOP  x  y", told("250 ok/")}, {"say 1 NOOP\r", told("500 what/")},
		{"say 1 LHLO a b", told("250 mailsack/")}, {"say 1 NOOP\r\x00", told("500 what/")}, {"say 1 " + strings.Repeat("x", 513), told("500 long/")},
	})
	imap := []step{{"imap", "ok 1"}, {"say 1 a  NOOP ", told("a OK/")}, {"say 1 ", told("* BAD/")}, {"say 1", told("* BAD/")}, {"say 1 a X {4}", told("+ /")}, {"say 1 ab", "ok -"}, {"say 1 ", told("a BAD/")}}
	expect(t, imap)
}

func TestP24_1Raw(t *testing.T) {
	expect(t, []step{
		{"lmtp", "ok 1"}, {"raw 1 ", "ok -"}, {"raw 1 4e4f4F50", "ok -"}, {"raw 1 0D", "ok -"}, {"raw 1 0a", told("250 ok/")}, {"raw 1 4e4f4f500d0a4e4f4f500d0a4e", told("250 ok/250 ok/")}, {"say 1 OOP", told("250 ok/")},
		{"raw 1 AbCdEf0123456789aBcDeF0d0A", told("500 what/")}, {"raw 1 6", "error 3"}, {"raw 1 0d0a", told("500 what/")},
	})
}

func TestP24_1Users(t *testing.T) {
	expect(t, []step{
		{"seed s", "ok"}, {"user al pw", "ok"}, {"user bo x", "ok"}, {"user  pw", "error 1"}, {"user abcdefghi pw", "error 1"}, {"user al other", "error 8"}, {"imap", "ok 1"}, {"say 1 a LOGIN bo x", told("a OK/")}, {"imap", "ok 2"},
		{"say 2 a LOGIN al other", told("a NO/")}, {"say 2 a LOGIN al pw", told("a OK/")},
	})
	script := ""
	for i := range 12 {
		script += fmt.Sprint("user u", i, " pw\n")
	}
	if got := shell.Run(script + "user more pw"); got != strings.Repeat("ok\n", 12)+"error 5\n" {
		t.Errorf("a full store: %q", got)
	}
}

// The seed decides what is drawn; it shows in nothing that a client sees.
func TestP24_2Seeds(t *testing.T) {
	script := "user al pw\nlmtp\nsay 1 LHLO x\nsay 1 MAIL FROM:<>\nsay 1 RCPT TO:<al>\nsay 1 DATA\nsay 1 text\nsay 1 .\nimap\nsay 2 a LOGIN al pw\nsay 2 b SELECT INBOX\nsay 2 c FETCH 1 BODY[]\n"
	a, b := shell.Run("seed a\n"+script), shell.Run("seed b\n"+script)
	if a != b || a != "ok\n"+shell.Run(script) || !strings.HasSuffix(a, told("* 1 FETCH (BODY[] {6}/text/)/c OK/")+"\n") {
		t.Errorf("reports %q and %q", a, b)
	}
}

func TestP24_2AnyScript(t *testing.T) {
	pieces := []string{"imap", "lmtp", "say", "raw", "shut", "crash", "who", "user", "seed", " ", " ", " ", "\n", "\n", "\n", "1", "2", "al", "pw", "a NOOP", "b LOGIN al pw", "LHLO x", "4e4f", "\x00", "\xff", "0d0a", "{3}"}
	seed := uint32(29)
	for range 500 {
		script := ""
		for range 60 {
			seed = seed*1664525 + 1013904223
			script += pieces[int(seed>>11)%len(pieces)]
		}
		report := shell.Run(script)
		lines := strings.Count(script, "\n")
		if !strings.HasSuffix(script, "\n") {
			lines++
		}
		if strings.Count(report, "\n") != lines || !strings.HasSuffix(report, "\n") {
			t.Fatalf("%q: %q", script, report)
		}
		for _, line := range strings.Split(strings.TrimSuffix(report, "\n"), "\n") {
			if line != "ok" && !strings.HasPrefix(line, "ok ") && !strings.HasPrefix(line, "error ") {
				t.Fatalf("%q: %q", script, line)
			}
		}
		if at := strings.Index(script, "\n"); at >= 0 && !strings.HasPrefix(report, shell.Run(script[:at+1])) {
			t.Fatalf("%q: the report of its first line", script)
		}
	}
}

// Numbers of two and three digits.
func TestP24_1ManyClients(t *testing.T) {
	script, report := "", ""
	for n := 1; n <= 130; n++ {
		script += fmt.Sprintf("imap\nsay %d a NOOP\nraw %d 61\nwho\nshut %d\nshut %d\n", n, n, n, n)
		report += fmt.Sprintf("ok %d\n%s\nok -\nok %d\nok\nerror 6\n", n, told("a OK/"), n)
	}
	if got := shell.Run(script); got != report {
		t.Error("130 clients, one after the other: another report")
	}
}
