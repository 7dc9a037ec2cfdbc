package server_test

import (
	"fmt"
	"math"
	"slices"
	"strings"
	"testing"

	"mailsack/api"
	"mailsack/disk"
	"mailsack/imap"
	"mailsack/lines"
	"mailsack/mac"
	"mailsack/ring"
	"mailsack/server"
	"mailsack/store"
	"mailsack/vault"
)

func drawn(seed string, n int) imap.Drawn {
	s, _ := mac.Draw(seed, "", fmt.Sprint("draw ", n), 92)
	return imap.Drawn{Nonce: s[16:28], Once: s[60:], Fresh: ring.Fresh{Salt: s[:16], Nonce: s[16:28], Private: s[28:60], Rounds: 2}}
}

func equal(a, b disk.Disk) bool {
	return slices.Equal(a.Sectors, b.Sectors) && slices.Equal(a.Cache, b.Cache)
}

func add(t *testing.T, s *server.Server, user, password string) {
	t.Helper()
	if errno := s.Add(user, password); errno != api.OK {
		t.Fatalf("Add of %s: %d", user, errno)
	}
}

func open(t *testing.T, s *server.Server, kind int) int {
	t.Helper()
	n, errno := s.Open(kind)
	if errno != api.OK {
		t.Fatalf("Open: %d", errno)
	}
	return n
}

func send(t *testing.T, s *server.Server, client int, bytes string) string {
	t.Helper()
	reply, errno := s.Send(client, bytes)
	if errno != api.OK {
		t.Fatalf("Send of %.40q: %d", bytes, errno)
	}
	return reply
}

func expect(t *testing.T, s *server.Server, client int, bytes, want string) {
	t.Helper()
	if got := send(t, s, client, bytes); got != want {
		t.Errorf("Send of %.60q: %q, want %q", bytes, got, want)
	}
}

// gone checks that there is no such client any more.
func gone(t *testing.T, s *server.Server, client int) {
	t.Helper()
	if reply, errno := s.Send(client, "a NOOP\r\n"); errno != api.ErrNone || reply != "" {
		t.Errorf("Send of client %d = %q, %d", client, reply, errno)
	}
	if errno := s.Shut(client); errno != api.ErrNone {
		t.Errorf("Shut of client %d = %d", client, errno)
	}
	if slices.Contains(s.Clients(), client) {
		t.Errorf("clients %v", s.Clients())
	}
}

func deliver(t *testing.T, s *server.Server, client int, user, text string) string {
	t.Helper()
	send(t, s, client, "LHLO x\r\nMAIL FROM:<>\r\nRCPT TO:<"+user+">\r\nDATA\r\n")
	return send(t, s, client, text+".\r\n")
}

func TestP23_1New(t *testing.T) {
	s := server.New("seed")
	if !equal(s.Disk(), store.Format()) || len(s.Clients()) != 0 || len(s.Users()) != 0 {
		t.Errorf("New: %v, %v", s.Clients(), s.Users())
	}
}

func TestP23_1Nil(t *testing.T) {
	var s *server.Server
	if errno := s.Add("al", "pw"); errno != api.ErrArg {
		t.Errorf("Add = %d", errno)
	}
	if n, errno := s.Open(server.IMAP); errno != api.ErrArg || n != 0 {
		t.Errorf("Open = %d, %d", n, errno)
	}
	if reply, errno := s.Send(1, "x"); errno != api.ErrArg || reply != "" {
		t.Errorf("Send = %q, %d", reply, errno)
	}
	if errno := s.Shut(1); errno != api.ErrArg {
		t.Errorf("Shut = %d", errno)
	}
	s.Crash(nil)
	if len(s.Clients()) != 0 || len(s.Users()) != 0 || !equal(s.Disk(), disk.Disk{}) {
		t.Error("a nil server has something")
	}
}

func TestP23_1Add(t *testing.T) {
	for _, seed := range []string{"", "seed", strings.Repeat("long", 50)} {
		s := server.New(seed)
		d := store.Format()
		draws := 0
		for _, c := range []struct {
			user string
			want api.Errno
		}{{"al", api.OK}, {"al", api.ErrThere}, {"Al", api.ErrArg}, {"", api.ErrArg}, {"bo", api.OK}, {"a1", api.OK}} {
			e, errno := vault.Add(d, c.user, "pw"+c.user, drawn(seed, draws).Fresh)
			draws++
			if errno != c.want {
				t.Fatalf("vault's Add of %q = %d", c.user, errno)
			}
			if errno == api.OK {
				d = e
			}
			if errno := s.Add(c.user, "pw"+c.user); errno != c.want || !equal(s.Disk(), d) {
				t.Errorf("Add of %q = %d, want %d", c.user, errno, c.want)
			}
		}
		if got := s.Users(); !slices.Equal(got, []string{"a1", "al", "bo"}) {
			t.Errorf("Users = %v", got)
		}
	}
}

func TestP23_1AddFull(t *testing.T) {
	s := server.New("")
	var last api.Errno
	for i := range 13 {
		d := s.Disk()
		last = s.Add(fmt.Sprint("u", i), "pw")
		if last != api.OK && (!equal(d, s.Disk()) || len(s.Users()) != i) {
			t.Errorf("Add %d = %d changes something", i, last)
		}
	}
	if last != api.ErrFull {
		t.Errorf("the last Add = %d", last)
	}
}

func TestP23_2Clients(t *testing.T) {
	s := server.New("")
	if server.LMTP != 1 || server.IMAP != 2 {
		t.Error("the constants")
	}
	for _, kind := range []int{0, 3, -1, math.MaxInt, math.MinInt} {
		if n, errno := s.Open(kind); errno != api.ErrArg || n != 0 {
			t.Errorf("Open(%d) = %d, %d", kind, n, errno)
		}
	}
	for i, kind := range []int{server.IMAP, server.LMTP, server.IMAP, server.LMTP} {
		if n := open(t, s, kind); n != i+1 {
			t.Errorf("Open = %d", n)
		}
	}
	for kind, want := range map[int]api.Errno{server.LMTP: api.ErrFull, server.IMAP: api.ErrFull, 7: api.ErrArg} {
		if n, errno := s.Open(kind); errno != want || n != 0 {
			t.Errorf("Open of one too many = %d, %d", n, errno)
		}
	}
	for _, n := range []int{0, -1, 5, math.MaxInt} {
		gone(t, s, n)
	}
	if errno := s.Shut(2); errno != api.OK || !slices.Equal(s.Clients(), []int{1, 3, 4}) {
		t.Errorf("Shut = %d, %v", errno, s.Clients())
	}
	gone(t, s, 2)
	if n := open(t, s, server.LMTP); n != 5 || !slices.Equal(s.Clients(), []int{1, 3, 4, 5}) {
		t.Errorf("Open = %d, %v", n, s.Clients())
	}
	expect(t, s, 1, "a LOGOUT\r\n", "* BYE\r\na OK\r\n")
	gone(t, s, 1)
	expect(t, s, 4, "QUIT\r\n", "221 bye\r\n")
	gone(t, s, 4)
	expect(t, s, 3, "a NOOP\r\n", "a OK\r\n")
	expect(t, s, 5, "NOOP\r\n", "250 ok\r\n")
	if n := open(t, s, server.IMAP); n != 6 || !slices.Equal(s.Clients(), []int{3, 5, 6}) {
		t.Errorf("Open = %d, %v", n, s.Clients())
	}
	// What follows the end of a client is not processed.
	expect(t, s, 6, "a LOGOUT\r\nb NOOP\r\n", "* BYE\r\na OK\r\n")
	expect(t, s, 5, "QUIT\r\nNOOP\r\n", "221 bye\r\n")
}

func TestP23_2LMTP(t *testing.T) {
	s := server.New("x")
	add(t, s, "al", "pw")
	add(t, s, "bo", "pw")
	c := open(t, s, server.LMTP)
	expect(t, s, c, "", "")
	expect(t, s, c, "LHLO", "")
	expect(t, s, c, " x\r", "")
	expect(t, s, c, "\nMAIL FROM:<>\r\nRCPT TO:<al>\r\nrcpt to:<no>\r\n", "250 mailsack\r\n250 ok\r\n250 ok\r\n550 no such user\r\n")
	expect(t, s, c, "what\r\n\r\nRCPT TO:<bo@x>\r\nRCPT TO:<al>\r\n", "500 what\r\n500 what\r\n250 ok\r\n250 ok\r\n")
	expect(t, s, c, "DATA\r\nA: b\r\n\r\n..dot\r\n", "354 go on\r\n")
	d := s.Disk()
	for i, user := range []string{"al", "bo", "al"} {
		var errno api.Errno
		if d, _, errno = vault.Deliver(d, user, drawn("x", 2+i).Once, "A: b\r\n\r\n.dot\r\n"); errno != api.OK {
			t.Fatal(errno)
		}
	}
	expect(t, s, c, ".\r\nMAIL FROM:<>\r\n", "250 ok\r\n250 ok\r\n250 ok\r\n250 ok\r\n")
	if !equal(s.Disk(), d) {
		t.Error("not what three deliveries make")
	}
	// A new user is known at once.
	add(t, s, "cy", "pw")
	expect(t, s, c, "RCPT TO:<cy>\r\n", "250 ok\r\n")
}

func TestP23_2LMTPLong(t *testing.T) {
	s := server.New("x")
	add(t, s, "al", "pw")
	add(t, s, "bo", "pw")
	c := open(t, s, server.LMTP)
	send(t, s, c, "LHLO x\r\nMAIL FROM:<>\r\nRCPT TO:<al>\r\nRCPT TO:<bo>\r\nDATA\r\n")
	d := s.Disk()
	expect(t, s, c, strings.Repeat(strings.Repeat("x", 98)+"\r\n", 7)+"\r\n.\r\n", "552 long\r\n552 long\r\n")
	if !equal(d, s.Disk()) {
		t.Error("a long text is stored")
	}
	// Nothing was drawn for it: 700 bytes go with the draw that follows the two users.
	text := strings.Repeat(strings.Repeat("x", 98)+"\r\n", 7)
	d, _, _ = vault.Deliver(d, "al", drawn("x", 2).Once, text)
	if reply := deliver(t, s, c, "al", text); reply != "250 ok\r\n" || !equal(d, s.Disk()) {
		t.Errorf("700 bytes: %q", reply)
	}
	x := strings.Repeat("y", 513)
	expect(t, s, c, x, "500 long\r\n")
	expect(t, s, c, "\r\nNOOP\r\n", "500 what\r\n250 ok\r\n")
	expect(t, s, c, x+"\r\nNOOP\r\n", "500 long\r\n250 ok\r\n")
	expect(t, s, c, x[1:], "")
	expect(t, s, c, "\r\n", "500 what\r\n")
	// In a text, too.
	send(t, s, c, "MAIL FROM:<>\r\nRCPT TO:<al>\r\nDATA\r\n")
	expect(t, s, c, "a\r\n"+x+"\r\nb\r\n.\r\n", "500 long\r\n250 ok\r\n")
	i := open(t, s, server.IMAP)
	send(t, s, i, "a LOGIN al pw\r\nb SELECT INBOX\r\n")
	expect(t, s, i, "c FETCH 2 BODY[]\r\n", "* 2 FETCH (BODY[] {6}\r\na\r\nb\r\n)\r\nc OK\r\n")
}

func TestP23_2LMTPFull(t *testing.T) {
	s := server.New("x")
	add(t, s, "al", "pw")
	c := open(t, s, server.LMTP)
	full := 0
	draws := 1
	for range 12 {
		d, _, errno := vault.Deliver(s.Disk(), "al", drawn("x", draws).Once, "text\r\n")
		draws++
		before := s.Disk()
		reply := deliver(t, s, c, "al", "text\r\n")
		switch {
		case errno == api.OK && (reply != "250 ok\r\n" || !equal(d, s.Disk())):
			t.Errorf("a delivery: %q", reply)
		case errno != api.OK && (reply != "452 full\r\n" || !equal(before, s.Disk())):
			t.Errorf("a delivery that is refused: %q", reply)
		}
		if errno != api.OK {
			full++
		}
	}
	if full == 0 {
		t.Error("no delivery was refused")
	}
}

func TestP23_2IMAP(t *testing.T) {
	s := server.New("x")
	add(t, s, "al", "pw")
	c := open(t, s, server.IMAP)
	d := s.Disk()
	var state imap.State
	draws := 1
	for _, line := range []string{"a NOOP", "b", "c LOGIN al no", "d LOGIN al pw", "e SELECT INBOX", "f CREATE b", "g X", "h APPEND b text", "i XPASSWD pw new", "j XROTATE new", "k STATUS b (MESSAGES)", "l XSTEP", "m XSTEP", "n XSTEP"} {
		command, _, _, _ := lines.Take(line + "\r\n")
		e, after, reply := imap.Do(d, state, command, drawn("x", draws))
		d, state = e, after
		draws++
		expect(t, s, c, line+"\r\n", reply)
		if !equal(s.Disk(), d) {
			t.Errorf("%s: not what Do makes", line)
		}
	}
}

func TestP23_2Literals(t *testing.T) {
	s := server.New("x")
	add(t, s, "al", "pw")
	c := open(t, s, server.IMAP)
	expect(t, s, c, "a LOGIN {2}\r", "")
	expect(t, s, c, "\n", "+ \r\n")
	expect(t, s, c, "a", "")
	expect(t, s, c, "l {2}\r\n", "+ \r\n")
	expect(t, s, c, "", "")
	expect(t, s, c, "pw", "")
	expect(t, s, c, "\r\n", "a OK\r\n")
	expect(t, s, c, "b NOOP\r\nc SELECT {5}\r\ninbox\r\nd {1}\r\n", "b OK\r\n+ \r\n* 0 EXISTS\r\n* 0 RECENT\r\n* OK [UIDVALIDITY 1]\r\n* OK [UIDNEXT 1]\r\nc OK\r\n+ \r\n")
	expect(t, s, c, "x\r\n", "* BAD\r\n")
	expect(t, s, c, "e NOOP {0}\r\n\r\nf X {0}\r\n{0}\r\n\r\n", "+ \r\ne BAD\r\n+ \r\n+ \r\nf BAD\r\n")
	four := "g X {1}\r\n1{1}\r\n2{1}\r\n3{1}\r\n4"
	expect(t, s, c, four+"\r\n", strings.Repeat("+ \r\n", 4)+"g BAD\r\n")
	expect(t, s, c, four+"{1}\r\nh NOOP\r\n", strings.Repeat("+ \r\n", 4)+"* BAD\r\nh OK\r\n")
	expect(t, s, c, "i X {701}\r\nj NOOP\r\n", "* BAD\r\nj OK\r\n")
	expect(t, s, c, "k X {1}\r\n1{1}\r\n", "+ \r\n+ \r\n")
	expect(t, s, c, "2 {800}\r\n", "* BAD\r\n")
	expect(t, s, c, "l X {1}\r\n", "+ \r\n")
	long := strings.Repeat("y", 513)
	expect(t, s, c, "1"+long, "* BAD\r\n")
	expect(t, s, c, "m NOOP\r\n", "m OK\r\n")
	expect(t, s, c, long+"\r\nn NOOP\r\n", "* BAD\r\nn OK\r\n")
	expect(t, s, c, "o {1}\r\nx"+long+"\r\np {1}\r\n", "+ \r\n* BAD\r\n+ \r\n")
	expect(t, s, c, "x\r\n", "* BAD\r\n")
}

// What is too long draws nothing.
func TestP23_2TooLongDrawsNothing(t *testing.T) {
	s := server.New("x")
	c := open(t, s, server.IMAP)
	expect(t, s, c, "a X {701}\r\n"+strings.Repeat("y", 600)+"\r\n", "* BAD\r\n* BAD\r\n")
	add(t, s, "al", "pw")
	d, _ := vault.Add(store.Format(), "al", "pw", drawn("x", 0).Fresh)
	if !equal(s.Disk(), d) {
		t.Error("something was drawn")
	}
	expect(t, s, c, "a NOOP\r\nb\r\n", "a OK\r\n* BAD\r\n")
	add(t, s, "bo", "pw")
	d, _ = vault.Add(d, "bo", "pw", drawn("x", 3).Fresh)
	if !equal(s.Disk(), d) {
		t.Error("not drawn once a command")
	}
}

func TestP23_2Crash(t *testing.T) {
	s := server.New("x")
	add(t, s, "al", "pw")
	open(t, s, server.IMAP)
	l := open(t, s, server.LMTP)
	deliver(t, s, l, "al", "text\r\n")
	d := s.Disk()
	for _, keep := range [][]int{nil, {0, 1, 2}, {-1, 7}} {
		s.Crash(keep)
		if !equal(s.Disk(), d) || len(s.Clients()) != 0 || !slices.Equal(s.Users(), []string{"al"}) {
			t.Errorf("after a crash: %v, %v", s.Clients(), s.Users())
		}
		gone(t, s, 1)
		gone(t, s, 2)
	}
	if n := open(t, s, server.IMAP); n != 3 {
		t.Errorf("Open after a crash = %d", n)
	}
	expect(t, s, 3, "a LOGIN al pw\r\nb EXAMINE INBOX\r\nc FETCH 1 BODY[]\r\n",
		"a OK\r\n* 1 EXISTS\r\n* 1 RECENT\r\n* OK [UIDVALIDITY 1]\r\n* OK [UIDNEXT 2]\r\nb OK\r\n* 1 FETCH (BODY[] {6}\r\ntext\r\n)\r\nc OK\r\n")
	// The number of draws survives.
	t2, draws := s.Disk(), 1+1+3
	add(t, s, "bo", "pw")
	if want, _ := vault.Add(t2, "bo", "pw", drawn("x", draws).Fresh); !equal(s.Disk(), want) {
		t.Error("the draws start anew")
	}
}

func TestP23_2ClientsAreApart(t *testing.T) {
	s := server.New("x")
	add(t, s, "al", "pw")
	a, b := open(t, s, server.IMAP), open(t, s, server.IMAP)
	l, m := open(t, s, server.LMTP), open(t, s, server.LMTP)
	expect(t, s, a, "a LOGIN al", "")
	expect(t, s, b, "b SELECT INBOX\r\n", "b BAD\r\n")
	expect(t, s, a, " pw\r\n", "a OK\r\n")
	expect(t, s, b, "b SELECT INBOX\r\n", "b BAD\r\n")
	expect(t, s, a, "c SELECT {5}\r\n", "+ \r\n")
	expect(t, s, b, "d LOGIN {2}\r\n", "+ \r\n")
	expect(t, s, a, "INBOX\r\n", "* 0 EXISTS\r\n* 0 RECENT\r\n* OK [UIDVALIDITY 1]\r\n* OK [UIDNEXT 1]\r\nc OK\r\n")
	expect(t, s, l, "LHLO x\r\n", "250 mailsack\r\n")
	expect(t, s, m, "MAIL FROM:<>\r\n", "503 sequence\r\n")
}

func session(text string) (string, string) {
	first := "LHLO x\r\nMAIL FROM:<a@b>\r\nRCPT TO:<al>\r\nDATA\r\n" + text + ".\r\nRSET\r\nwhat\r\n" + strings.Repeat("x", 511) + "\r\nNOOP\r\n"
	second := "a LOGIN {2}\r\nal {2}\r\npw\r\nb SELECT INBOX\r\n\r\nc FETCH 1:* (UID BODY[])\r\nd APPEND INBOX (\\Seen) {9}\r\nA: b\r\n\r\nx\r\ne UID SEARCH SEEN\r\nf X {9999}\r\ng STATUS \"inbox\" (MESSAGES)\r\nh LOGOUT\r\n"
	return first, second
}

// P23.3: the replies do not depend on the pieces in which the bytes come.
func TestP23_3Pieces(t *testing.T) {
	first, second := session("Subject: a\r\n\r\n..x\r\ntext\r\n")
	var want string
	for _, size := range []int{1 << 20, 1, 2, 3, 7, 50, 511} {
		s := server.New("pieces")
		add(t, s, "al", "pw")
		got := ""
		for i, bytes := range []string{first, second} {
			c := open(t, s, i+1)
			for from := 0; from < len(bytes); from += size {
				got += send(t, s, c, bytes[from:min(from+size, len(bytes))])
			}
		}
		got += fmt.Sprint(s.Clients(), s.Disk())
		if want == "" {
			want = got
		}
		if got != want {
			t.Errorf("pieces of %d bytes: other replies", size)
		}
	}
	if !strings.Contains(want, "* 1 FETCH (UID 1 BODY[] {24}\r\nSubject: a\r\n\r\n.x\r\ntext\r\n)\r\n") || !strings.Contains(want, "* SEARCH 1 2\r\n") {
		t.Errorf("replies %q", want)
	}
}

func lineEnded(s string) string { return strings.ReplaceAll(s, "\n", "\r\n") }

// P23.3 and P4: what was answered by 250 is fetched byte by byte, also after crashes, logins, rotations.
func TestP23_3Durable(t *testing.T) {
	s := server.New("durable")
	add(t, s, "al", "pw")
	add(t, s, "bo", "pw")
	var accepted []string
	for i := range 9 {
		l := open(t, s, server.LMTP)
		text := lineEnded(fmt.Sprint("Subject: ", i, "\n\n", strings.Repeat("line\n", i*i), "end\n"))
		if reply := deliver(t, s, l, "al", text); reply == "250 ok\r\n" {
			accepted = append(accepted, text)
		} else if reply != "452 full\r\n" {
			t.Errorf("a delivery: %q", reply)
		}
		s.Crash([]int{i})
		if i%3 == 2 {
			c := open(t, s, server.IMAP)
			password := fmt.Sprint("pw", i)
			send(t, s, c, "a LOGIN al pw\r\nb LOGIN al pw2\r\nc LOGIN al pw5\r\n")
			expect(t, s, c, "d SELECT INBOX\r\n", fmt.Sprintf("* %d EXISTS\r\n* %d RECENT\r\n* OK [UIDVALIDITY 1]\r\n* OK [UIDNEXT %d]\r\nd OK\r\n", len(accepted), len(accepted), len(accepted)+1))
			old := []string{"pw", "pw2", "pw5"}[i/3]
			expect(t, s, c, "e XPASSWD "+old+" "+password+"\r\nf XROTATE "+password+"\r\n", "e OK\r\nf OK\r\n")
			for range accepted {
				expect(t, s, c, "g XSTEP\r\n", "g OK\r\n")
			}
			expect(t, s, c, "g XSTEP\r\n", "* DONE\r\ng OK\r\n")
			s.Crash(nil)
			c = open(t, s, server.IMAP)
			expect(t, s, c, "a LOGIN al "+password+"\r\n", "a OK\r\n")
			send(t, s, c, "b EXAMINE INBOX\r\n")
			for n, text := range accepted {
				expect(t, s, c, fmt.Sprint("c FETCH ", n+1, " BODY[]\r\n"), fmt.Sprintf("* %d FETCH (BODY[] {%d}\r\n%s)\r\nc OK\r\n", n+1, len(text), text))
			}
			s.Shut(c)
		}
	}
	if len(accepted) < 5 {
		t.Errorf("%d texts were accepted", len(accepted))
	}
}

func TestP23_3Random(t *testing.T) {
	pieces := []string{"a ", "LOGIN al pw", "NOOP", "\r\n", "\r", "\n", "{3}", "{0}\r\n", "SELECT INBOX", "FETCH 1 BODY[]", "LHLO x", "MAIL FROM:<>", "RCPT TO:<al>", "DATA", ".", "\r\n.\r\n", " ", "x", "\x00\xff", strings.Repeat("y", 200),
		"b UID FETCH 1:* FLAGS\r\n", "c APPEND INBOX x\r\n", "\r\n", "\r\n"}
	seed := uint32(23)
	random := func(n int) int {
		seed = seed*1664525 + 1013904223
		return int(seed>>9) % n
	}
	s := server.New("random")
	add(t, s, "al", "pw")
	for range 3000 {
		if len(s.Clients()) < 2 {
			s.Open(1 + random(2))
		}
		c := s.Clients()[random(len(s.Clients()))]
		reply, errno := s.Send(c, pieces[random(len(pieces))]+pieces[random(len(pieces))])
		if errno != api.OK || reply != "" && !strings.HasSuffix(reply, "\r\n") {
			t.Fatalf("Send = %q, %d", reply, errno)
		}
		if random(200) == 0 {
			s.Crash([]int{random(5)})
		}
	}
	if !slices.Equal(s.Users(), []string{"al"}) {
		t.Errorf("users %v", s.Users())
	}
}
