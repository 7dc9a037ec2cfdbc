package imap_test

import (
	"fmt"
	"reflect"
	"slices"
	"strings"
	"testing"

	"mailsack/api"
	"mailsack/disk"
	"mailsack/imap"
	"mailsack/index"
	"mailsack/lines"
	"mailsack/ring"
	"mailsack/store"
	"mailsack/vault"
)

func bytesOf(n int, with int) string {
	out := make([]byte, n)
	for i := range out {
		out[i] = byte(i*i*3 + i*43 + with*with + with*7)
	}
	return string(out)
}

func fresh(with int) ring.Fresh {
	return ring.Fresh{Salt: bytesOf(16, with), Nonce: bytesOf(12, with+1), Private: bytesOf(32, with+2), Rounds: 2}
}

func drawn(with int) imap.Drawn {
	return imap.Drawn{Nonce: bytesOf(12, with+30), Once: bytesOf(32, with+60), Fresh: fresh(with + 90)}
}

func equal(a, b disk.Disk) bool {
	return slices.Equal(a.Sectors, b.Sectors) && slices.Equal(a.Cache, b.Cache)
}

func message(subject, body string) string {
	return "From: bo@there\r\nSubject: " + subject + "\r\n\r\n" + body + "\r\n"
}

// client is one that uses a disk alone.
type client struct {
	t     *testing.T
	disk  disk.Disk
	state imap.State
	count int
}

func command(t *testing.T, line string) lines.Command {
	t.Helper()
	c, rest, found, _ := lines.Take(line + "\r\n")
	if found != lines.Whole || rest != "" {
		t.Fatalf("%q is no command", line)
	}
	return c
}

// do performs a command and returns the reply.
func (c *client) do(line string) string {
	c.t.Helper()
	c.count++
	d, s, reply := imap.Do(c.disk, c.state, command(c.t, line), drawn(c.count))
	c.disk, c.state = d, s
	return reply
}

// expect performs a command with the tag a; want is the lines of the reply.
func (c *client) expect(line string, want ...string) {
	c.t.Helper()
	text := ""
	for _, l := range want {
		text += l + "\r\n"
	}
	if got := c.do("a " + line); got != text {
		c.t.Errorf("%s: %q, want %q", line, got, text)
	}
}

// refused performs a command that must change nothing.
func (c *client) refused(want string, commands ...string) {
	c.t.Helper()
	for _, line := range commands {
		d, s := c.disk, c.state
		if got := c.do("a " + line); got != "a "+want+"\r\n" {
			c.t.Errorf("%s: %q, want %s", line, got, want)
		}
		if !equal(d, c.disk) || !reflect.DeepEqual(s, c.state) {
			c.t.Errorf("%s: %s changes something", line, want)
		}
		c.disk, c.state = d, s
	}
}

// still performs commands that are answered by OK and change neither the disk nor the session.
func (c *client) still(commands ...string) {
	c.t.Helper()
	for _, line := range commands {
		d, s := c.disk, c.state.Session
		if got := c.do("a " + line); !strings.HasSuffix(got, "a OK\r\n") {
			c.t.Errorf("%s: %q", line, got)
		}
		if !equal(d, c.disk) || !reflect.DeepEqual(s, c.state.Session) {
			c.t.Errorf("%s changes something", line)
		}
	}
}

// saves performs a command and checks that x was saved by it.
func (c *client) saves(x index.Index, errno api.Errno, line string, want ...string) {
	c.t.Helper()
	if errno != api.OK {
		c.t.Fatalf("%s: the index: %d", line, errno)
	}
	s, d, errno := vault.Save(c.disk, c.state.Session, x, drawn(c.count+1).Nonce)
	if errno != api.OK {
		c.t.Fatalf("%s: Save: %d", line, errno)
	}
	c.expect(line, want...)
	if !equal(c.disk, d) || !same(c.state.Session, s) {
		c.t.Errorf("%s: not what Save makes", line)
	}
}

func same(a, b vault.Session) bool {
	x, e1 := index.Put(a.Index)
	y, e2 := index.Put(b.Index)
	return a.User == b.User && a.Private == b.Private && a.Old == b.Old && a.Epoch == b.Epoch && x == y && e1 == e2
}

func newDisk(t *testing.T) disk.Disk {
	t.Helper()
	d, errno := vault.Add(store.Format(), "al", "pw", fresh(1))
	if errno != api.OK {
		t.Fatal(errno)
	}
	return d
}

func deliver(t *testing.T, d disk.Disk, texts ...string) disk.Disk {
	t.Helper()
	for i, text := range texts {
		var errno api.Errno
		if d, _, errno = vault.Deliver(d, "al", bytesOf(32, i+5), text); errno != api.OK {
			t.Fatalf("Deliver: %d", errno)
		}
	}
	return d
}

// reader returns a client that logged in and has these messages in INBOX.
func reader(t *testing.T, texts ...string) *client {
	t.Helper()
	c := &client{t: t, disk: deliver(t, newDisk(t), texts...)}
	c.expect("LOGIN al pw", "a OK")
	return c
}

// selected returns a client that selected INBOX with three messages.
func selected(t *testing.T) *client {
	t.Helper()
	c := reader(t, message("one", "first"), message("two", "second text"), message("three", "third"))
	c.do("a SELECT INBOX")
	return c
}

func (c *client) flags(flags ...int) {
	c.t.Helper()
	for i, n := range flags {
		x, errno := index.Flag(c.state.Session.Index, "INBOX", i+1, n)
		if errno != api.OK {
			c.t.Fatal(errno)
		}
		c.state.Session.Index = x
	}
}

func TestP22_1Flags(t *testing.T) {
	names := []string{`\Seen`, `\Answered`, `\Flagged`, `\Deleted`, `\Draft`, `\Recent`}
	for n := range 64 {
		var want []string
		for i, name := range names {
			if n>>i&1 == 1 {
				want = append(want, name)
			}
		}
		if got := imap.Flags(n); got != strings.Join(want, " ") {
			t.Errorf("Flags(%d) = %q", n, got)
		}
		sum, ok := imap.FlagsOf(want)
		if n < 32 && (sum != n || !ok) || n >= 32 && (sum != 0 || ok) {
			t.Errorf("FlagsOf(%q) = %d, %v", want, sum, ok)
		}
	}
	for _, n := range []int{-1, 64, 65, 1 << 40, -64} {
		if got := imap.Flags(n); got != "" {
			t.Errorf("Flags(%d) = %q", n, got)
		}
	}
}

func TestP22_1FlagsOf(t *testing.T) {
	for _, c := range []struct {
		l    []string
		want int
		ok   bool
	}{
		{nil, 0, true}, {[]string{`\seen`}, 1, true}, {[]string{`\ANSWERED`, `\sEEN`}, 3, true}, {[]string{`\Draft`, `\Flagged`, `\Deleted`}, 28, true}, {[]string{`\Seen`, `\SEEN`}, 1, true},
		{[]string{`\Recent`}, 0, false}, {[]string{`\Seen`, `\recent`}, 0, false}, {[]string{"Seen"}, 0, false}, {[]string{""}, 0, false}, {[]string{`\`}, 0, false}, {[]string{`\Seen `}, 0, false},
		{[]string{`\Seen`, `x`}, 0, false}, {[]string{`\\Seen`}, 0, false}, {[]string{`\Seen \Draft`}, 0, false}, {[]string{`\Other`}, 0, false},
	} {
		if got, ok := imap.FlagsOf(c.l); got != c.want || ok != c.ok {
			t.Errorf("FlagsOf(%q) = %d, %v", c.l, got, ok)
		}
	}
}

func TestP22_2NoCommand(t *testing.T) {
	d := newDisk(t)
	for _, c := range []lines.Command{
		{}, {Texts: []string{""}}, {Texts: []string{"a"}}, {Texts: []string{"* NOOP"}}, {Texts: []string{`"a" NOOP`}}, {Texts: []string{`a "NOOP"`}}, {Texts: []string{"(a) NOOP"}}, {Texts: []string{"a (NOOP)"}},
		{Texts: []string{`a NOOP "`}}, {Texts: []string{"a NOOP ("}}, {Texts: []string{"a NOOP", "b"}}, {Texts: []string{"a\tNOOP x"}}, {Texts: []string{"a NOOP " + strings.Repeat("x ", 39)}},
		{Texts: []string{"a ", ""}, Literals: []string{"NOOP"}}, {Texts: []string{"", " NOOP"}, Literals: []string{"a"}}, {Texts: []string{"  "}},
	} {
		e, s, reply := imap.Do(d, imap.State{}, c, drawn(1))
		if reply != "* BAD\r\n" || !equal(d, e) || !reflect.DeepEqual(s, imap.State{}) {
			t.Errorf("Do(%q): %q", c.Texts, reply)
		}
	}
	for _, line := range []string{"x.1 noop", "** NoOp", "+ NOOP ", " A  NOOP"} {
		tag := strings.Fields(line)[0]
		if _, _, reply := imap.Do(d, imap.State{}, command(t, line), drawn(1)); reply != tag+" OK\r\n" {
			t.Errorf("%q: %q", line, reply)
		}
	}
}

func TestP22_2Simple(t *testing.T) {
	for _, c := range []*client{{t: t, disk: newDisk(t)}, reader(t), selected(t)} {
		c.still("CAPABILITY", "NOOP", "noop")
		c.expect("capability", "* CAPABILITY IMAP4rev1", "a OK")
		c.expect("NOOP", "a OK")
		c.refused("BAD", "CAPABILITY x", "NOOP x", "NOOP ()", `NOOP ""`, "LOGOUT x", "X", "NOOPS", "UID", "UID NOOP", "UID X", `UID "FETCH" 1 FLAGS`, "XNOOP", "AUTHENTICATE PLAIN", "STARTTLS", "CHECK", "IDLE", "UID EXPUNGE 1")
		before := c.state
		c.expect("Logout", "* BYE", "a OK")
		before.Gone = true
		if !reflect.DeepEqual(before, c.state) {
			t.Error("LOGOUT changes more than Gone")
		}
	}
}

func TestP22_2Requirements(t *testing.T) {
	c := &client{t: t, disk: newDisk(t)}
	login := []string{"SELECT INBOX", "EXAMINE INBOX", "CREATE b", "DELETE b", "RENAME b c", "SUBSCRIBE b", "UNSUBSCRIBE b", `LIST "" *`, `LSUB "" *`, "STATUS INBOX (MESSAGES)", "APPEND INBOX x",
		"XPASSWD pw pw", "XROTATE pw", "XSTEP"}
	boxed := []string{"CLOSE", "SEARCH ALL", "FETCH 1 FLAGS", "COPY 1 INBOX", "UID FETCH 1 FLAGS", "UID COPY 1 INBOX", "UID SEARCH ALL"}
	writing := []string{"EXPUNGE", `STORE 1 FLAGS (\Seen)`, `UID STORE 1 FLAGS (\Seen)`}
	c.refused("BAD", login...)
	c.refused("BAD", boxed...)
	c.refused("BAD", writing...)
	c.expect("LOGIN al pw", "a OK")
	c.refused("BAD", "LOGIN al pw", "LOGIN al no", "LOGIN")
	c.refused("BAD", boxed...)
	c.refused("BAD", writing...)
	c.do("a EXAMINE INBOX")
	c.refused("BAD", writing...)
	c.still("SEARCH ALL", "FETCH 1 FLAGS", "COPY 1 INBOX", "UID FETCH 1 FLAGS")
	c.do("a SELECT INBOX")
	c.still("EXPUNGE", `STORE 1 FLAGS (\Seen)`, "CLOSE")
}

func TestP22_2Login(t *testing.T) {
	d := deliver(t, newDisk(t), message("one", "x"))
	for _, line := range []string{"LOGIN al pw", `login "al" "pw"`, "LOGIN {2}\r\nal {2}\r\npw", "LOGIN al {2}\r\npw"} {
		c := &client{t: t, disk: d, state: imap.State{Box: "INBOX", Only: true, Gone: true}}
		s, e, errno := vault.Login(d, "al", "pw", drawn(1).Nonce)
		c.expect(line, "a OK")
		if errno != api.OK || !same(c.state.Session, s) || !equal(c.disk, e) || c.state.Box != "INBOX" || !c.state.Only || !c.state.Gone {
			t.Errorf("%s: state %v", line, c.state.Box)
		}
	}
	c := &client{t: t, disk: d}
	c.refused("NO", "LOGIN al no", "LOGIN bo pw", "LOGIN AL pw", `LOGIN "" pw`, `LOGIN al ""`, "LOGIN al p")
	c.refused("BAD", "LOGIN", "LOGIN al", "LOGIN al pw x", "LOGIN (al) pw", "LOGIN (al pw)")
}

func TestP22_2Select(t *testing.T) {
	c := reader(t, message("one", "x"), message("two", "y"))
	c.flags(32, 1)
	for _, line := range []string{"SELECT INBOX", "EXAMINE inbox", `select "InBox"`, "EXAMINE {5}\r\nINBOX"} {
		c.state.Only = !strings.HasPrefix(line, "E")
		before := c.state.Session
		c.expect(line, "* 2 EXISTS", "* 1 RECENT", "* OK [UIDVALIDITY 1]", "* OK [UIDNEXT 3]", "a OK")
		if c.state.Box != "INBOX" || c.state.Only != strings.HasPrefix(line, "E") || !reflect.DeepEqual(before, c.state.Session) {
			t.Errorf("%s: %q, %v", line, c.state.Box, c.state.Only)
		}
	}
	c.expect("CREATE b", "a OK")
	c.expect("SELECT b", "* 0 EXISTS", "* 0 RECENT", "* OK [UIDVALIDITY 2]", "* OK [UIDNEXT 1]", "a OK")
	c.refused("NO", "SELECT none", "EXAMINE B", `SELECT ""`, `EXAMINE "a b"`)
	c.refused("BAD", "SELECT", "SELECT b c", "SELECT (b)", "EXAMINE", "EXAMINE ()")
	if c.state.Box != "b" {
		t.Errorf("after what was refused: %q", c.state.Box)
	}
}

func TestP22_2Mailboxes(t *testing.T) {
	c := reader(t, message("one", "x"))
	x := c.state.Session.Index
	step := func(line string, y index.Index, errno api.Errno) {
		t.Helper()
		c.saves(y, errno, line, "a OK")
		x = c.state.Session.Index
	}
	y, errno := index.Create(x, "b")
	step("CREATE b", y, errno)
	y, errno = index.Create(x, "inbox2")
	step(`create "inbox2"`, y, errno)
	y, errno = index.Rename(x, "b", "c")
	step("RENAME b c", y, errno)
	y, errno = index.Rename(x, "INBOX", "old")
	step("RENAME inBOX {3}\r\nold", y, errno)
	y, errno = index.Subscribe(x, "INBOX", true)
	step("SUBSCRIBE inbox", y, errno)
	y, errno = index.Subscribe(x, "none", true)
	step("SUBSCRIBE none", y, errno)
	step("SUBSCRIBE none", y, errno)
	y, errno = index.Subscribe(x, "INBOX", false)
	step("UNSUBSCRIBE InBoX", y, errno)
	step("UNSUBSCRIBE other", y, errno)
	y, errno = index.Delete(x, "old")
	step("DELETE old", y, errno)
	if len(vault.Numbers(c.disk, "m", "al")) != 0 {
		t.Error("the messages of a deleted mailbox are still there")
	}
	c.refused("NO", "CREATE c", "CREATE Inbox", `CREATE "a b"`, `CREATE ""`, "DELETE INBOX", "DELETE inbox", "DELETE none", "RENAME none d", "RENAME c inbox", "RENAME c inbox2", "RENAME inbox c", `RENAME c ""`,
		`SUBSCRIBE ""`, "UNSUBSCRIBE *")
	c.refused("BAD", "CREATE", "CREATE a b", "CREATE (a)", "DELETE", "DELETE a b", "RENAME", "RENAME a", "RENAME a b c", "RENAME (a b)", "SUBSCRIBE", "SUBSCRIBE a b", "UNSUBSCRIBE", "UNSUBSCRIBE ()")
	c.do("a SELECT c")
	c.refused("NO", "DELETE c", "RENAME c d")
	c.do("a EXAMINE INBOX")
	c.refused("NO", "RENAME inbox d", "DELETE inbox")
	y, errno = index.Rename(x, "c", "d")
	step("RENAME c d", y, errno)
	y, errno = index.Delete(x, "d")
	step("DELETE d", y, errno)
}

func TestP22_2List(t *testing.T) {
	c := reader(t)
	for _, line := range []string{"CREATE b", "CREATE a/c", "SUBSCRIBE b", "SUBSCRIBE INBOX", "SUBSCRIBE zz"} {
		c.expect(line, "a OK")
	}
	c.expect(`LIST "" *`, `* LIST () "/" INBOX`, `* LIST () "/" a/c`, `* LIST () "/" b`, "a OK")
	c.expect(`LIST x "*"`, `* LIST () "/" INBOX`, `* LIST () "/" a/c`, `* LIST () "/" b`, "a OK")
	c.expect(`LSUB "" *`, `* LSUB () "/" INBOX`, `* LSUB () "/" b`, `* LSUB () "/" zz`, "a OK")
	c.expect("LIST a/ a/c", `* LIST () "/" a/c`, "a OK")
	c.expect("list {0}\r\n {5}\r\nINBOX", `* LIST () "/" INBOX`, "a OK")
	c.expect("LSUB x zz", `* LSUB () "/" zz`, "a OK")
	c.expect("LSUB x a/c", "a OK")
	c.expect(`LIST "" ""`, "a OK")
	c.expect(`LIST "" %`, "a OK")
	c.expect(`LIST "" a*`, "a OK")
	c.expect(`LIST "" zz`, "a OK")
	c.still(`LIST "" *`, `LSUB "" *`)
	c.refused("BAD", "LIST", "LIST *", `LIST "" * x`, `LIST () *`, "LSUB", "LSUB x", "LSUB a b c", `LIST "" (*)`)
}

// The second text of LIST and LSUB names INBOX in any case; all else is compared as it is.
func TestP22_2ListOfInbox(t *testing.T) {
	c := reader(t)
	c.expect("CREATE old", "a OK")
	names := []string{"INBOX", "inbox", "InBox", `"InBox"`, `"INBOX"`, "{5}\r\niNBOX", "{5}\r\ninbox"}
	for _, name := range names {
		c.expect(`LIST "" `+name, `* LIST () "/" INBOX`, "a OK")
		c.expect(`LSUB "" `+name, "a OK")
	}
	for _, line := range []string{"SUBSCRIBE old", "SUBSCRIBE inbox"} {
		c.expect(line, "a OK")
	}
	for _, name := range names {
		c.expect(`LSUB "" `+name, `* LSUB () "/" INBOX`, "a OK")
		c.expect(`LIST inbox `+name, `* LIST () "/" INBOX`, "a OK")
		c.expect(`LSUB Inbox `+name, `* LSUB () "/" INBOX`, "a OK")
		c.still(`LIST "" `+name, `LSUB "" `+name)
	}
	c.expect(`LIST inbox old`, `* LIST () "/" old`, "a OK")
	c.expect(`LSUB inbox old`, `* LSUB () "/" old`, "a OK")
	for _, name := range []string{"OLD", "Old", `"OLD"`, "inbo", "inboxx", `" inbox"`, `"inbox "`, "{6}\r\n\u0131nbox", "inbox*", `""`} {
		c.expect(`LIST "" `+name, "a OK")
		c.expect(`LSUB "" `+name, "a OK")
	}
	c.refused("BAD", "LIST inbox", "LSUB inbox", `LIST "" (inbox)`, `LSUB "" inbox inbox`)
}

// The names that an index contains are compared as they are, so one that only resembles INBOX is never asked for.
func TestP22_2ListOfNamesLikeInbox(t *testing.T) {
	c := reader(t)
	x, errno := index.Create(c.state.Session.Index, "inbox")
	if errno != api.OK {
		t.Fatal(errno)
	}
	if x, errno = index.Subscribe(x, "inbox", true); errno != api.OK {
		t.Fatal(errno)
	}
	c.state.Session.Index = x
	for _, name := range []string{"INBOX", "inbox", `"Inbox"`} {
		c.expect(`LIST "" `+name, `* LIST () "/" INBOX`, "a OK")
		c.expect(`LSUB "" `+name, "a OK")
	}
	c.expect(`LIST "" *`, `* LIST () "/" INBOX`, `* LIST () "/" inbox`, "a OK")
	c.expect(`LSUB "" *`, `* LSUB () "/" inbox`, "a OK")
}

func TestP22_2Status(t *testing.T) {
	c := selected(t)
	c.flags(32, 33, 1)
	c.do("a CREATE b")
	c.expect("STATUS INBOX (MESSAGES RECENT UIDNEXT UIDVALIDITY UNSEEN)", "* STATUS INBOX (MESSAGES 3 RECENT 2 UIDNEXT 4 UIDVALIDITY 1 UNSEEN 1)", "a OK")
	c.expect(`STATUS "inbox" (unseen uidValidity UIDNEXT recent messages messages)`, "* STATUS INBOX (MESSAGES 3 RECENT 2 UIDNEXT 4 UIDVALIDITY 1 UNSEEN 1)", "a OK")
	c.expect("status b (UNSEEN MESSAGES)", "* STATUS b (MESSAGES 0 UNSEEN 0)", "a OK")
	c.expect("STATUS b (UIDVALIDITY)", "* STATUS b (UIDVALIDITY 2)", "a OK")
	c.expect("STATUS b ()", "* STATUS b ()", "a OK")
	c.still("STATUS INBOX (MESSAGES)")
	c.refused("NO", "STATUS none (MESSAGES)", `STATUS "" ()`)
	c.refused("BAD", "STATUS", "STATUS INBOX", "STATUS INBOX MESSAGES", "STATUS INBOX (X)", "STATUS INBOX (MESSAGES X)", "STATUS none (X)", `STATUS INBOX ("MESSAGES")`, "STATUS INBOX (MESSAGES) x", "STATUS (MESSAGES)",
		"STATUS INBOX ((MESSAGES))", "STATUS INBOX (MESSAGES) (RECENT)")
}

func TestP22_2Append(t *testing.T) {
	c := reader(t, message("one", "x"))
	c.do("a CREATE b")
	for line, want := range map[string]struct {
		box, text string
		flags     int
	}{
		`APPEND b (\Seen \Draft) {3}` + "\r\nxyz": {"b", "xyz", 17}, `append inbox "a text"`: {"INBOX", "a text", 0}, "APPEND b word": {"b", "word", 0}, `APPEND b () ""`: {"b", "", 0},
		`APPEND INBOX (\deleted) "x"`: {"INBOX", "x", 8}, "APPEND b {700}\r\n" + bytesOf(700, 1): {"b", bytesOf(700, 1), 0},
	} {
		d, number, errno := vault.Deliver(c.disk, "al", drawn(c.count+1).Once, want.text)
		if errno != api.OK {
			t.Fatal(errno)
		}
		s, d, uid, errno := vault.Place(d, c.state.Session, want.box, number, want.flags, drawn(c.count+1).Nonce)
		if errno != api.OK {
			t.Fatal(errno)
		}
		c.expect(line, "a OK")
		if !equal(c.disk, d) || !same(c.state.Session, s) {
			t.Errorf("%.30s: not what Deliver and Place make (UID %d)", line, uid)
		}
		if text, errno := vault.Text(c.disk, c.state.Session, number); errno != api.OK || text != want.text {
			t.Errorf("%.30s: the text", line)
		}
	}
	c.refused("NO", "APPEND none x", `APPEND none (\Seen) x`, "APPEND B x", `APPEND "a b" x`)
	c.refused("BAD", "APPEND", "APPEND b", "APPEND b x y", `APPEND b (\Recent) x`, `APPEND b (x) y`, `APPEND none (x) y`, `APPEND b (\Seen)`, `APPEND b (\Seen) (\Seen) x`, `APPEND b ("\\Seen") x`, "APPEND (b) x")
}

func TestP22_2AppendRefused(t *testing.T) {
	c := reader(t)
	long := lines.Command{Texts: []string{"a APPEND INBOX ", ""}, Literals: []string{bytesOf(701, 1)}}
	if d, s, reply := imap.Do(c.disk, c.state, long, drawn(1)); reply != "a NO\r\n" || !equal(d, c.disk) || !reflect.DeepEqual(s, c.state) {
		t.Errorf("a long text: %q", reply)
	}
	wrong := drawn(1)
	wrong.Nonce = ""
	for _, line := range []string{"a APPEND INBOX x", "a CREATE b", "a SUBSCRIBE b"} {
		if d, s, reply := imap.Do(c.disk, c.state, command(t, line), wrong); reply != "a NO\r\n" || !equal(d, c.disk) || !reflect.DeepEqual(s, c.state) {
			t.Errorf("%s without a nonce: %q", line, reply)
		}
	}
}

func TestP22_2Expunge(t *testing.T) {
	c := reader(t, "1", "2", "3", "4", "5", "6")
	c.do("a SELECT INBOX")
	c.still("EXPUNGE")
	c.flags(8, 1, 9, 63, 0, 55)
	x := c.state.Session.Index
	for _, uid := range []int{1, 3, 4} {
		x, _ = index.Expunge(x, "INBOX", uid)
	}
	c.saves(x, api.OK, "EXPUNGE", "* 1 EXPUNGE", "* 2 EXPUNGE", "* 2 EXPUNGE", "a OK")
	if got := vault.Numbers(c.disk, "m", "al"); !slices.Equal(got, []int{2, 5, 6}) {
		t.Errorf("messages %v", got)
	}
	c.expect("EXPUNGE", "a OK")
	c.refused("BAD", "EXPUNGE x", "CLOSE x", "CLOSE ()")
	x, _ = index.Flag(c.state.Session.Index, "INBOX", 6, 8)
	c.state.Session.Index = x
	x, _ = index.Expunge(x, "INBOX", 6)
	c.saves(x, api.OK, "expunge", "* 3 EXPUNGE", "a OK")
}

func TestP22_2Close(t *testing.T) {
	c := reader(t, "1", "2", "3")
	c.do("a SELECT INBOX")
	c.flags(8, 0, 8)
	x := c.state.Session.Index
	for _, uid := range []int{1, 3} {
		x, _ = index.Expunge(x, "INBOX", uid)
	}
	c.saves(x, api.OK, "CLOSE", "a OK")
	if c.state.Box != "" || c.state.Only {
		t.Errorf("after CLOSE: %q", c.state.Box)
	}
	c.refused("BAD", "CLOSE")
	c.do("a SELECT INBOX")
	c.still("CLOSE")
	c.do("a EXAMINE INBOX")
	x, _ = index.Flag(c.state.Session.Index, "INBOX", 2, 8)
	c.state.Session.Index = x
	c.still("CLOSE")
	if c.state.Box != "" || c.state.Only {
		t.Errorf("after CLOSE: %q, %v", c.state.Box, c.state.Only)
	}
}

func TestP22_2Search(t *testing.T) {
	c := selected(t)
	c.flags(1, 32, 33)
	x, _ := index.Expunge(c.state.Session.Index, "INBOX", 1)
	c.state.Session.Index = x
	for line, want := range map[string]string{
		"ALL": " 1 2", "SEEN": " 2", "UNSEEN": " 1", "NEW": " 1", "SUBJECT TWO": " 1", `BODY "second text"`: " 1", "DELETED": "", "1": " 1", "*": " 2", "UID 3": " 2", "UID 1": "", "2:* SEEN": " 2",
		"OR 1 SEEN": " 1 2", "LARGER 0": " 1 2", "not seen": " 1", "TEXT {3}\r\ntWo": " 1", `FROM ""`: " 1 2", "UID *": " 2", "3:*": " 2", "LARGER 44": " 1", "SMALLER 1": "", `HEADER "subject" three`: " 2",
	} {
		c.expect("SEARCH "+line, "* SEARCH"+want, "a OK")
		uids := strings.NewReplacer("1", "2", "2", "3").Replace(want)
		c.expect("uid search "+line, "* SEARCH"+uids, "a OK")
	}
	c.still("SEARCH ALL", "UID SEARCH ALL")
	c.refused("BAD", "SEARCH", "SEARCH X", "SEARCH (ALL)", "SEARCH ALL ()", "SEARCH NOT", "UID SEARCH", "UID SEARCH X", "SEARCH CHARSET UTF-8 ALL")
	deep := strings.Repeat("NOT ", 15) + "SEEN"
	c.expect("SEARCH "+deep, "* SEARCH 1", "a OK")
	c.refused("BAD", "SEARCH NOT "+deep, "UID SEARCH NOT "+deep, "SEARCH ALL NOT "+deep)
	c.do("a CREATE b")
	c.do("a SELECT b")
	c.expect("SEARCH ALL", "* SEARCH", "a OK")
	c.expect("UID SEARCH 1:*", "* SEARCH", "a OK")
}

func literal(name, s string) string {
	return fmt.Sprintf("%s {%d}\r\n%s", name, len(s), s)
}

func TestP22_2Fetch(t *testing.T) {
	c := selected(t)
	c.flags(1, 33, 63)
	x, _ := index.Expunge(c.state.Session.Index, "INBOX", 1)
	c.state.Session.Index = x
	two, three := message("two", "second text"), message("three", "third")
	head := "From: bo@there\r\nSubject: two\r\n\r\n"
	size := len(two)
	all := `\Seen \Answered \Flagged \Deleted \Draft \Recent`
	for _, f := range []struct {
		line string
		want []string
	}{
		{"FETCH 1 FLAGS", []string{`* 1 FETCH (FLAGS (\Seen \Recent))`}}, {"fetch 1 flags", []string{`* 1 FETCH (FLAGS (\Seen \Recent))`}}, {"FETCH 1 (FLAGS)", []string{`* 1 FETCH (FLAGS (\Seen \Recent))`}},
		{"FETCH 1 UID", []string{"* 1 FETCH (UID 2)"}}, {"FETCH 1:2 UID", []string{"* 1 FETCH (UID 2)", "* 2 FETCH (UID 3)"}}, {"FETCH 2:1 UID", []string{"* 1 FETCH (UID 2)", "* 2 FETCH (UID 3)"}},
		{"FETCH 2,1,2 UID", []string{"* 1 FETCH (UID 2)", "* 2 FETCH (UID 3)"}}, {"FETCH * UID", []string{"* 2 FETCH (UID 3)"}}, {"FETCH 5:* UID", []string{"* 2 FETCH (UID 3)"}}, {"FETCH 3 UID", nil},
		{`FETCH "2" (UID FLAGS UID)`, []string{"* 2 FETCH (UID 3 FLAGS (" + all + ") UID 3)"}}, {"FETCH 1 ()", []string{"* 1 FETCH ()"}}, {"FETCH 1 rfc822.size", []string{fmt.Sprint("* 1 FETCH (RFC822.SIZE ", size, ")")}},
		{"FETCH 1 BODY.PEEK[]", []string{"* 1 FETCH (" + literal("BODY[]", two) + ")"}},
		{"FETCH 1 (BODY[HEADER] uid BODY[TEXT])", []string{"* 1 FETCH (" + literal("BODY[HEADER]", head) + " UID 2 " + literal("BODY[TEXT]", "second text\r\n") + ")"}},
		{"FETCH 1:* BODY[]", []string{"* 1 FETCH (" + literal("BODY[]", two) + ")", "* 2 FETCH (" + literal("BODY[]", three) + ")"}},
		{"UID FETCH 2 FLAGS", []string{`* 1 FETCH (UID 2 FLAGS (\Seen \Recent))`}}, {"uid fetch 3 (UID)", []string{"* 2 FETCH (UID 3 UID 3)"}}, {"UID FETCH 3 ()", []string{"* 2 FETCH (UID 3)"}}, {"UID FETCH 1 FLAGS", nil},
		{"UID FETCH * UID", []string{"* 2 FETCH (UID 3 UID 3)"}}, {"UID FETCH 7:* RFC822.SIZE", []string{fmt.Sprint("* 2 FETCH (UID 3 RFC822.SIZE ", len(three), ")")}},
		{"UID FETCH 1:4294967295 FLAGS", []string{`* 1 FETCH (UID 2 FLAGS (\Seen \Recent))`, `* 2 FETCH (UID 3 FLAGS (` + all + `))`}},
	} {
		d := c.disk
		c.expect(f.line, append(f.want, "a OK")...)
		if !equal(c.disk, d) {
			t.Errorf("%s saves something", f.line)
		}
	}
	c.refused("BAD", "FETCH", "FETCH 1", "FETCH 1 X", "FETCH 1 (FLAGS X)", "FETCH x FLAGS", "FETCH 0 FLAGS", "FETCH 1, FLAGS", "FETCH 1 FLAGS UID", `FETCH 1 "FLAGS"`, `FETCH 1 ("FLAGS")`, "FETCH 1 ((FLAGS))",
		"FETCH 1 (FLAGS) x", "FETCH (1) FLAGS", "FETCH 1 BODY", "FETCH 1 BODY[1]", "FETCH 1 BODY.PEEK[HEADER]", "FETCH 1 BODY.PEEK[TEXT]", "FETCH 1 ALL", "UID FETCH", "UID FETCH 1", "UID FETCH x FLAGS", "UID UID FETCH 1 FLAGS",
		"FETCH 1 {5}\r\nFLAGS")
}

func TestP22_2FetchMarks(t *testing.T) {
	for _, item := range []string{"BODY[]", "BODY[HEADER]", "body[text]", "(FLAGS BODY[TEXT])", "(BODY.PEEK[] BODY[HEADER])"} {
		c := selected(t)
		c.flags(32, 33, 34)
		x, _ := index.Flag(c.state.Session.Index, "INBOX", 1, 33)
		x, _ = index.Flag(x, "INBOX", 3, 35)
		s, d, errno := vault.Save(c.disk, c.state.Session, x, drawn(c.count+1).Nonce)
		reply := c.do("a FETCH 1:3 " + item)
		if errno != api.OK || !equal(c.disk, d) || !same(c.state.Session, s) {
			t.Errorf("%s: not what Save makes", item)
		}
		if strings.Contains(item, "FLAGS") && !strings.HasPrefix(reply, `* 1 FETCH (FLAGS (\Seen \Recent) BODY[TEXT] {7}`+"\r\nfirst\r\n)\r\n") {
			t.Errorf("%s: %q", item, reply)
		}
		c.still("FETCH 1:3 "+item, "UID FETCH 1:* "+item)
	}
	c := selected(t)
	c.flags(0, 0, 0)
	c.still("FETCH 1:3 BODY.PEEK[]", "FETCH 1:3 (FLAGS UID RFC822.SIZE)", "FETCH 9 BODY[]", "UID FETCH 9 BODY[]")
	x, errno := index.Flag(c.state.Session.Index, "INBOX", 2, 1)
	c.saves(x, errno, "UID FETCH 2 (BODY[TEXT] FLAGS)", "* 2 FETCH (UID 2 "+literal("BODY[TEXT]", "second text\r\n")+` FLAGS (\Seen))`, "a OK")
	c.do("a EXAMINE INBOX")
	c.still("FETCH 1:3 BODY[]", "FETCH 1 BODY[TEXT]")
	c.expect("FETCH 1 (FLAGS BODY[TEXT])", "* 1 FETCH (FLAGS () "+literal("BODY[TEXT]", "first\r\n")+")", "a OK")
}

func TestP22_2TextsThatCannotBeOpened(t *testing.T) {
	c := selected(t)
	d, errno := store.Apply(c.disk, []store.Change{{Name: "m/al/2", Data: "broken"}})
	if errno != api.OK {
		t.Fatal(errno)
	}
	c.disk = d
	c.refused("NO", "FETCH 2 FLAGS", "FETCH 1:3 UID", "FETCH 2 ()", "FETCH 1:2 BODY[]", "UID FETCH 2 FLAGS", "SEARCH ALL", "SEARCH 1", "UID SEARCH 1", "FETCH 1:3 BODY.PEEK[]")
	c.refused("BAD", "SEARCH X", "FETCH 2 X")
	c.expect("FETCH 1,3 UID", "* 1 FETCH (UID 1)", "* 3 FETCH (UID 3)", "a OK")
	c.still(`STORE 2 -FLAGS (\Seen)`)
	c.do(`a STORE 2 +FLAGS (\Deleted)`)
	c.expect("EXPUNGE", "* 2 EXPUNGE", "a OK")
	c.expect("SEARCH ALL", "* SEARCH 1 2", "a OK")
	c.disk, errno = store.Apply(c.disk, []store.Change{{Name: "m/al/1", Gone: true}})
	if errno != api.OK {
		t.Fatal(errno)
	}
	c.refused("NO", "FETCH 1 FLAGS", "SEARCH ALL")
}

func TestP22_2Store(t *testing.T) {
	for _, f := range []struct {
		line  string
		flags [3]int
		want  []string
	}{
		{`STORE 1 FLAGS (\Answered)`, [3]int{34, 33, 28}, []string{`* 1 FETCH (FLAGS (\Answered \Recent))`}},
		{`STORE 2 flags ()`, [3]int{32, 32, 28}, []string{`* 2 FETCH (FLAGS (\Recent))`}},
		{`store 1:3 +Flags (\Seen \DRAFT)`, [3]int{49, 49, 29}, []string{`* 1 FETCH (FLAGS (\Seen \Draft \Recent))`, `* 2 FETCH (FLAGS (\Seen \Draft \Recent))`, `* 3 FETCH (FLAGS (\Seen \Flagged \Deleted \Draft))`}},
		{`STORE 2:* -FLAGS (\Seen \Draft \Flagged)`, [3]int{32, 32, 8}, []string{`* 2 FETCH (FLAGS (\Recent))`, `* 3 FETCH (FLAGS (\Deleted))`}},
		{`STORE 3 FLAGS (\Seen)`, [3]int{32, 33, 1}, []string{`* 3 FETCH (FLAGS (\Seen))`}},
		{`STORE 1,2 FLAGS.SILENT (\Flagged)`, [3]int{36, 36, 28}, nil},
		{`STORE 3 +flags.silent (\Seen)`, [3]int{32, 33, 29}, nil},
		{`STORE 3 "-FLAGS.Silent" (\Deleted)`, [3]int{32, 33, 20}, nil},
		{`STORE 1:2 +FLAGS (\Seen)`, [3]int{33, 33, 28}, []string{`* 1 FETCH (FLAGS (\Seen \Recent))`, `* 2 FETCH (FLAGS (\Seen \Recent))`}},
		{`UID STORE 1 FLAGS (\Answered)`, [3]int{34, 33, 28}, []string{`* 1 FETCH (UID 1 FLAGS (\Answered \Recent))`}},
		{`uid store 2,3 +FLAGS (\Answered)`, [3]int{32, 35, 30}, []string{`* 2 FETCH (UID 2 FLAGS (\Seen \Answered \Recent))`, `* 3 FETCH (UID 3 FLAGS (\Answered \Flagged \Deleted \Draft))`}},
		{`UID STORE * -FLAGS.SILENT (\Draft)`, [3]int{32, 33, 12}, nil},
	} {
		c := selected(t)
		c.flags(32, 33, 28)
		x := c.state.Session.Index
		for i, n := range f.flags {
			x, _ = index.Flag(x, "INBOX", i+1, n)
		}
		c.saves(x, api.OK, f.line, append(f.want, "a OK")...)
		d := c.disk
		c.expect(f.line, append(f.want, "a OK")...)
		if !equal(c.disk, d) {
			t.Errorf("%s again saves something", f.line)
		}
	}
}

func TestP22_2StoreRefused(t *testing.T) {
	c := selected(t)
	c.refused("BAD", "STORE", "STORE 1", "STORE 1 FLAGS", `STORE 1 FLAGS \Seen`, `STORE x FLAGS (\Seen)`, `STORE 0 FLAGS (\Seen)`, `STORE 1 X (\Seen)`, `STORE 1 FLAGS.LOUD (\Seen)`, `STORE 1 (\Seen)`, `STORE 1 FLAGS (\Recent)`,
		`STORE 1 FLAGS (Seen)`, `STORE 1 FLAGS (\Seen) x`, `STORE 1 FLAGS ("\\Seen")`, `STORE 1 ++FLAGS (\Seen)`, `STORE 1 FLAGS.SILENT.SILENT (\Seen)`, `STORE 1 .SILENT (\Seen)`, `UID STORE 1 FLAGS`, `STORE 9 X (\Seen)`,
		`STORE 1 FLAG (\Seen)`)
	c.still(`STORE 9 FLAGS (\Seen)`, `UID STORE 9 +FLAGS (\Seen)`, `STORE 1:3 -FLAGS (\Deleted)`, `STORE 1 +FLAGS ()`)
	c.expect(`STORE 9 FLAGS (\Seen)`, "a OK")
	c.expect(`STORE 1 -FLAGS (\Seen)`, `* 1 FETCH (FLAGS (\Recent))`, "a OK")
}

func TestP22_2Copy(t *testing.T) {
	c := selected(t)
	c.do("a CREATE b")
	c.flags(1, 34, 8)
	x, _ := index.Expunge(c.state.Session.Index, "INBOX", 1)
	c.state.Session.Index = x
	copies := func(line, to string, uids ...int) {
		t.Helper()
		x := c.state.Session.Index
		var errno api.Errno
		for _, uid := range uids {
			if x, _, errno = index.Copy(x, "INBOX", uid, to); errno != api.OK {
				t.Fatal(errno)
			}
		}
		c.saves(x, errno, line, "a OK")
	}
	copies("COPY 1 b", "b", 2)
	copies("COPY 2,1 b", "b", 2, 3)
	copies("UID COPY 3 b", "b", 3)
	copies("uid copy 1:* {1}\r\nb", "b", 2, 3)
	copies(`COPY * "inbox"`, "INBOX", 3)
	c.do("a EXAMINE INBOX")
	copies("COPY 1 inbox", "INBOX", 2)
	c.still("COPY 9 b", "UID COPY 1 b")
	c.refused("NO", "COPY 1 none", "COPY 1 B", `UID COPY 2 ""`)
	c.refused("BAD", "COPY", "COPY 1", "COPY x b", "COPY 1 b c", "COPY 1 (b)", "COPY 0 b", "UID COPY", "UID COPY 1", "COPY x none")
	for range 4 {
		c.do("a COPY 1:4 b")
	}
	if n := len(c.state.Session.Index.Boxes[1].Mails); n != 22 {
		t.Fatalf("%d messages", n)
	}
	c.expect("COPY 1:3 b", "a OK")
	c.refused("NO", "COPY 1:2 b")
	c.expect("COPY 4 b", "a OK")
	c.refused("NO", "COPY 1 b", "COPY 1 inbox")
}

func TestP22_2Keys(t *testing.T) {
	c := selected(t)
	e, errno := vault.Change(c.disk, "al", "pw", "new", drawn(c.count+1).Fresh)
	s := c.state
	c.expect("XPASSWD pw new", "a OK")
	if errno != api.OK || !equal(c.disk, e) || !reflect.DeepEqual(c.state, s) {
		t.Errorf("XPASSWD: %d", errno)
	}
	c.refused("NO", "XPASSWD pw x", "XROTATE pw", "XSTEP", `XPASSWD "" x`)
	c.refused("BAD", "XPASSWD", "XPASSWD a", "XPASSWD a b c", "XPASSWD (a b)", "XROTATE", "XROTATE a b", "XROTATE ()", "XSTEP x")
	session, e, errno := vault.Rotate(c.disk, c.state.Session, "new", drawn(c.count+1).Fresh)
	c.expect(`xrotate "new"`, "a OK")
	if errno != api.OK || !equal(c.disk, e) || !same(c.state.Session, session) || c.state.Box != "INBOX" {
		t.Errorf("XROTATE: %d", errno)
	}
	c.refused("NO", "XROTATE new")
	for i := range 4 {
		session, e, done, errno := vault.Step(c.disk, c.state.Session, drawn(c.count+1).Once)
		if i < 3 {
			c.expect("XSTEP", "a OK")
		} else {
			c.expect("xstep", "* DONE", "a OK")
		}
		if errno != api.OK || done != (i == 3) || !equal(c.disk, e) || !same(c.state.Session, session) {
			t.Errorf("XSTEP: %d", errno)
		}
		c.expect("FETCH 2 BODY[TEXT]", "* 2 FETCH ("+literal("BODY[TEXT]", "second text\r\n")+")", "a OK")
	}
	c.refused("NO", "XSTEP")
}

// P22.3: what was delivered is fetched byte by byte.
func TestP22_3Bytes(t *testing.T) {
	texts := []string{"", "\r\n", "x", bytesOf(700, 3), "A: b\r\n\r\n", strings.Repeat("\r\n", 40), "a {3}\r\n", ")", bytesOf(126, 9)}
	c := reader(t, texts...)
	c.do("a SELECT INBOX")
	for i, text := range texts {
		c.expect(fmt.Sprint("FETCH ", i+1, " BODY[]"), fmt.Sprint("* ", i+1, " FETCH (", literal("BODY[]", text), ")"), "a OK")
		c.expect(fmt.Sprint("FETCH ", i+1, " RFC822.SIZE"), fmt.Sprint("* ", i+1, " FETCH (RFC822.SIZE ", len(text), ")"), "a OK")
	}
}

// P22.3: a reply ends with the tag's line; BAD and NO change nothing; also in states that no client reaches.
func TestP22_3AnyState(t *testing.T) {
	base := selected(t)
	states := []imap.State{{}, base.state, {Box: "INBOX"}, {Session: vault.Session{User: "al"}, Box: "x"}, {Session: base.state.Session, Box: "none", Only: true}, {Session: vault.Session{User: "al", Index: index.Index{Boxes: []index.Box{
		{Name: "x y", Mails: []index.Mail{{UID: 3, Flags: -1, Object: -5, Size: -7}, {UID: 3, Flags: 200}}}}}}, Box: "x y"}}
	words := strings.Fields(`NOOP CAPABILITY LOGOUT LOGIN SELECT EXAMINE CREATE DELETE RENAME SUBSCRIBE LIST LSUB STATUS APPEND CLOSE EXPUNGE SEARCH FETCH STORE COPY UID XPASSWD XROTATE XSTEP
		INBOX b 1 * 1:* FLAGS BODY[] (FLAGS) (\Seen) (\Deleted) +FLAGS ALL "" al pw (MESSAGES) (UID BODY[TEXT]) SEEN x ( ) "x"`)
	seed := uint32(17)
	random := func(n int) int {
		seed = seed*1664525 + 1013904223
		return int(seed>>8) % n
	}
	for _, d := range []disk.Disk{{}, store.Format(), base.disk} {
		for i := range 3000 {
			s := states[i%len(states)]
			line := "tag"
			for range 1 + random(5) {
				line += " " + words[random(len(words))]
			}
			w := drawn(i % 5)
			if i%7 == 0 {
				w = imap.Drawn{}
			}
			e, after, reply := imap.Do(d, s, lines.Command{Texts: []string{line}}, w)
			rest, ok := strings.CutSuffix(reply, "tag OK\r\n")
			switch {
			case reply == "* BAD\r\n" || reply == "tag BAD\r\n" || reply == "tag NO\r\n":
				if !equal(d, e) || !reflect.DeepEqual(s, after) {
					t.Fatalf("%q: %q changes something", line, reply)
				}
			case !ok || rest != "" && (!strings.HasPrefix(rest, "* ") || !strings.HasSuffix(rest, "\r\n")):
				t.Fatalf("%q: %q", line, reply)
			}
		}
	}
}
