package index_test

import (
	"fmt"
	"math"
	"reflect"
	"slices"
	"strings"
	"testing"

	"mailsack/api"
	"mailsack/index"
)

const most = 1<<32 - 1

func mail(uid int) index.Mail {
	return index.Mail{UID: uid, Flags: uid % 64, Object: uid + 100, Size: uid % 701}
}

func mails(from, to int) []index.Mail {
	var l []index.Mail
	for i := from; i <= to; i++ {
		l = append(l, mail(i))
	}
	return l
}

// sample is an index with three mailboxes and two subscriptions.
func sample() index.Index {
	return index.Index{
		Boxes: []index.Box{
			{Name: "INBOX", Validity: 1, Next: 9, Mails: []index.Mail{mail(2), mail(5), mail(8)}},
			{Name: "Drafts", Validity: 4, Next: 3, Mails: []index.Mail{mail(1)}},
			{Name: "a/b", Validity: 3, Next: 1},
		},
		Subs:  []string{"INBOX", "x"},
		Given: 7,
	}
}

// full has as many mailboxes, subscriptions and messages as there may be.
func full() index.Index {
	x := index.Index{Given: 7}
	for i, name := range []string{"INBOX", "-", "/", "A", "Z", "abcdefghijklmnop"} {
		x.Boxes = append(x.Boxes, index.Box{Name: name, Validity: 6 - i, Next: 40 + i, Mails: mails(i*5+1, i*5+5)})
		x.Subs = append(x.Subs, fmt.Sprint("s", i))
	}
	return x
}

// edges has the greatest numbers.
func edges() index.Index {
	return index.Index{
		Boxes: []index.Box{{Name: "INBOX", Validity: most - 1, Next: most, Mails: []index.Mail{
			{UID: 1, Flags: 0, Object: 1, Size: 0}, {UID: most - 1, Flags: 63, Object: most, Size: 700}}}},
		Given: most,
	}
}

func same(x, y index.Index) bool {
	if len(x.Boxes) != len(y.Boxes) || !slices.Equal(x.Subs, y.Subs) || x.Given != y.Given {
		return false
	}
	for i, b := range x.Boxes {
		c := y.Boxes[i]
		if b.Name != c.Name || b.Validity != c.Validity || b.Next != c.Next || !slices.Equal(b.Mails, c.Mails) {
			return false
		}
	}
	return true
}

func changed(f func(x *index.Index)) index.Index {
	x := sample()
	f(&x)
	return x
}

func wrongIndexes() map[string]index.Index {
	m := map[string]index.Index{"zero": {}}
	add := func(what string, f func(x *index.Index)) { m[what] = changed(f) }
	add("no mailbox", func(x *index.Index) { x.Boxes = nil })
	add("another first mailbox", func(x *index.Index) { x.Boxes[0].Name = "Inbox" })
	add("INBOX not first", func(x *index.Index) { x.Boxes = x.Boxes[1:] })
	add("INBOX twice", func(x *index.Index) { x.Boxes[1].Name = "INBOX" })
	add("a mailbox twice", func(x *index.Index) { x.Boxes[2].Name = "Drafts" })
	add("decreasing names", func(x *index.Index) { x.Boxes[1], x.Boxes[2] = x.Boxes[2], x.Boxes[1] })
	add("an empty name", func(x *index.Index) { x.Boxes[1].Name = "" })
	add("a wrong name", func(x *index.Index) { x.Boxes[2].Name = "a b" })
	add("a long name", func(x *index.Index) { x.Boxes[2].Name = strings.Repeat("a", 17) })
	add("validity 0", func(x *index.Index) { x.Boxes[1].Validity = 0 })
	add("validity -1", func(x *index.Index) { x.Boxes[1].Validity = -1 })
	add("validity Given", func(x *index.Index) { x.Boxes[1].Validity = 7 })
	add("next 0", func(x *index.Index) { x.Boxes[2].Next = 0 })
	add("next 2^32", func(x *index.Index) { x.Boxes[2].Next = most + 1 })
	add("a UID of next", func(x *index.Index) { x.Boxes[0].Next = 8 })
	add("a UID beyond next", func(x *index.Index) { x.Boxes[0].Next = 7 })
	add("UID 0", func(x *index.Index) { x.Boxes[1].Mails[0].UID = 0 })
	add("UID -1", func(x *index.Index) { x.Boxes[1].Mails[0].UID = -1 })
	add("equal UIDs", func(x *index.Index) { x.Boxes[0].Mails[1].UID = 2 })
	add("decreasing UIDs", func(x *index.Index) { x.Boxes[0].Mails[1].UID = 1 })
	add("flags 64", func(x *index.Index) { x.Boxes[0].Mails[1].Flags = 64 })
	add("flags -1", func(x *index.Index) { x.Boxes[0].Mails[1].Flags = -1 })
	add("object 0", func(x *index.Index) { x.Boxes[0].Mails[1].Object = 0 })
	add("object 2^32", func(x *index.Index) { x.Boxes[0].Mails[1].Object = most + 1 })
	add("size -1", func(x *index.Index) { x.Boxes[0].Mails[1].Size = -1 })
	add("size 701", func(x *index.Index) { x.Boxes[0].Mails[1].Size = 701 })
	add("given 0", func(x *index.Index) { x.Given = 0 })
	add("given 2^32", func(x *index.Index) { x.Given = most + 1 })
	add("given 4", func(x *index.Index) { x.Given = 4 })
	add("an empty subscription", func(x *index.Index) { x.Subs[0] = "" })
	add("a wrong subscription", func(x *index.Index) { x.Subs[1] = "x*" })
	add("decreasing subscriptions", func(x *index.Index) { x.Subs[1] = "A" })
	add("7 subscriptions", func(x *index.Index) { x.Subs = []string{"a", "b", "c", "d", "e", "f", "g"} })
	x := full()
	x.Boxes[2].Mails = append(x.Boxes[2].Mails, mail(30))
	m["31 messages"] = x
	x = full()
	x.Boxes = append(x.Boxes, index.Box{Name: "b", Validity: 1, Next: 1})
	m["7 mailboxes"] = x
	return m
}

func TestP15_1New(t *testing.T) {
	want := index.Index{Boxes: []index.Box{{Name: "INBOX", Validity: 1, Next: 1}}, Given: 2}
	if x := index.New(); !same(x, want) || !index.Right(x) {
		t.Errorf("New = %v", x)
	}
	x := index.New()
	x.Boxes[0].Name = "changed"
	if !same(index.New(), want) {
		t.Error("New returns the same memory twice")
	}
}

func TestP15_1RightName(t *testing.T) {
	for _, s := range []string{"a", "INBOX", "abcdefghijklmnop", "a-b/c_d", "0", "-", "/", "_", "Zz09"} {
		if !index.RightName(s) {
			t.Errorf("%q is no mailbox name", s)
		}
	}
	for _, s := range []string{"", "abcdefghijklmnopq", "a b", "a.b", "a*", "é", "a\x00"} {
		if index.RightName(s) {
			t.Errorf("%q is a mailbox name", s)
		}
	}
	for c := range 256 {
		want := c >= 'a' && c <= 'z' || c >= 'A' && c <= 'Z' || c >= '0' && c <= '9' || c == 45 || c == 47 || c == 95
		if index.RightName("x"+string([]byte{byte(c)})) != want {
			t.Errorf("byte %d: %v", c, !want)
		}
	}
}

func TestP15_1Right(t *testing.T) {
	for what, x := range wrongIndexes() {
		if index.Right(x) {
			t.Errorf("%s: valid", what)
		}
		if s, errno := index.Put(x); errno != api.ErrArg || s != "" {
			t.Errorf("%s: Put = %x, %d", what, s, errno)
		}
	}
	for what, x := range map[string]index.Index{"new": index.New(), "sample": sample(), "full": full(), "edges": edges()} {
		if !index.Right(x) {
			t.Errorf("%s: not valid", what)
		}
	}
	if x := changed(func(x *index.Index) { x.Boxes[1].Name = "INBO"; x.Boxes[2].Name = "inbox" }); !index.Right(x) {
		t.Error("mailboxes INBO and inbox: not valid")
	}
}

func TestP15_1Find(t *testing.T) {
	x := sample()
	for name, want := range map[string]int{"INBOX": 0, "Drafts": 1, "a/b": 2, "": -1, "inbox": -1, "x": -1, "Draft": -1} {
		if got := index.Find(x, name); got != want {
			t.Errorf("Find(%q) = %d", name, got)
		}
	}
	if got := index.Find(index.Index{}, "INBOX"); got != -1 {
		t.Errorf("Find in nothing = %d", got)
	}
}

func TestP15_1Objects(t *testing.T) {
	x := sample()
	x.Boxes[1].Mails = []index.Mail{{UID: 1, Object: 105}, {UID: 2, Object: 9}, {UID: 3, Object: 9}}
	for _, c := range []struct {
		x    index.Index
		want []int
	}{{index.New(), nil}, {index.Index{}, nil}, {sample(), []int{101, 102, 105, 108}}, {x, []int{9, 102, 105, 108}}} {
		if got := index.Objects(c.x); !slices.Equal(got, c.want) {
			t.Errorf("Objects = %v, want %v", got, c.want)
		}
	}
}

func four(n int) string {
	return string([]byte{byte(n), byte(n >> 8), byte(n >> 16), byte(n >> 24)})
}

func encoding(x index.Index) string {
	one := func(n int) string { return string([]byte{byte(n)}) }
	s := four(x.Given) + one(len(x.Boxes))
	for _, b := range x.Boxes {
		s += one(len(b.Name)) + b.Name + four(b.Validity) + four(b.Next) + one(len(b.Mails))
		for _, m := range b.Mails {
			s += four(m.UID) + one(m.Flags) + four(m.Object) + one(m.Size) + one(m.Size>>8)
		}
	}
	s += one(len(x.Subs))
	for _, sub := range x.Subs {
		s += one(len(sub)) + sub
	}
	return s
}

func TestP15_1PutTake(t *testing.T) {
	for what, x := range map[string]index.Index{"new": index.New(), "sample": sample(), "full": full(), "edges": edges()} {
		s, errno := index.Put(x)
		if errno != api.OK || s != encoding(x) {
			t.Errorf("%s: Put = %x, %d", what, s, errno)
		}
		if got, errno := index.Take(encoding(x)); errno != api.OK || !same(got, x) {
			t.Errorf("%s: Take = %v, %d", what, got, errno)
		}
	}
}

func TestP15_1TakeErrors(t *testing.T) {
	var wrong []string
	for _, x := range []index.Index{index.New(), sample(), full()} {
		s := encoding(x)
		for n := range len(s) {
			wrong = append(wrong, s[:n])
		}
		wrong = append(wrong, s+"\x00", s+"x")
	}
	for what, x := range wrongIndexes() {
		// What does not fit into the bytes of the encoding is another, valid index.
		if strings.Contains(what, "2^32") || x.Given < 0 || what == "flags -1" || what == "size -1" || what == "validity -1" || what == "UID -1" {
			continue
		}
		wrong = append(wrong, encoding(x))
	}
	wrong = append(wrong, strings.Repeat("\xff", 300), strings.Repeat("\x00", 300), strings.Repeat("\x01", 100))
	for _, s := range wrong {
		if got, errno := index.Take(s); errno != api.ErrForm || !same(got, index.Index{}) {
			t.Errorf("Take(%x) = %v, %d", s, got, errno)
		}
	}
}

// all runs each function that changes an index; ErrArg and nothing else is expected.
func allRefused(t *testing.T, what string, x index.Index) {
	t.Helper()
	check := func(call string, y index.Index, errno api.Errno) {
		t.Helper()
		if errno != api.ErrArg || !same(y, index.Index{}) {
			t.Errorf("%s: %s = %d", what, call, errno)
		}
	}
	y, errno := index.Create(x, "new")
	check("Create", y, errno)
	y, errno = index.Delete(x, "Drafts")
	check("Delete", y, errno)
	y, errno = index.Rename(x, "Drafts", "new")
	check("Rename", y, errno)
	y, errno = index.Rename(x, "INBOX", "new")
	check("Rename of INBOX", y, errno)
	for _, yes := range []bool{false, true} {
		y, errno = index.Subscribe(x, "x", yes)
		check("Subscribe", y, errno)
	}
	y, uid, errno := index.Append(x, "INBOX", 1, 1, 1)
	check("Append", y, errno)
	y, errno = index.Flag(x, "INBOX", 5, 1)
	check("Flag", y, errno)
	y, errno = index.Expunge(x, "INBOX", 5)
	check("Expunge", y, errno)
	y, uid2, errno := index.Copy(x, "INBOX", 5, "Drafts")
	check("Copy", y, errno)
	if uid != 0 || uid2 != 0 {
		t.Errorf("%s: UIDs %d and %d", what, uid, uid2)
	}
}

func TestP15_2WrongIndexes(t *testing.T) {
	for what, x := range wrongIndexes() {
		allRefused(t, what, x)
	}
}

func expect(t *testing.T, what string, got index.Index, errno, wantErrno api.Errno, want index.Index) {
	t.Helper()
	if errno != wantErrno || !same(got, want) {
		t.Errorf("%s = %v, %d, want %v, %d", what, got, errno, want, wantErrno)
	}
}

func TestP15_2Create(t *testing.T) {
	for name, at := range map[string]int{"A": 1, "E": 2, "z": 3, "inbox": 3, "a/a": 2, "INBOX2": 2} {
		got, errno := index.Create(sample(), name)
		want := changed(func(x *index.Index) {
			x.Boxes = slices.Insert(x.Boxes, at, index.Box{Name: name, Validity: 7, Next: 1})
			x.Given = 8
		})
		expect(t, "Create of "+name, got, errno, api.OK, want)
	}
	greatest := changed(func(x *index.Index) { x.Given = most })
	almost := changed(func(x *index.Index) { x.Given = most - 1 })
	for _, c := range []struct {
		x    index.Index
		name string
		want api.Errno
	}{
		{sample(), "", api.ErrArg}, {sample(), "a b", api.ErrArg}, {sample(), strings.Repeat("a", 17), api.ErrArg},
		{sample(), "INBOX", api.ErrThere}, {sample(), "Drafts", api.ErrThere}, {sample(), "a/b", api.ErrThere},
		{full(), "new", api.ErrFull}, {full(), "A", api.ErrThere}, {full(), "*", api.ErrArg},
		{greatest, "new", api.ErrFull}, {greatest, "a/b", api.ErrThere}, {greatest, "", api.ErrArg},
	} {
		got, errno := index.Create(c.x, c.name)
		expect(t, "Create of "+c.name, got, errno, c.want, index.Index{})
	}
	if got, errno := index.Create(almost, "new"); errno != api.OK || got.Given != most || !index.Right(got) {
		t.Errorf("Create with Given 2^32 - 2 = %d", errno)
	}
}

func TestP15_2Delete(t *testing.T) {
	got, errno := index.Delete(sample(), "Drafts")
	expect(t, "Delete", got, errno, api.OK, changed(func(x *index.Index) { x.Boxes = slices.Delete(x.Boxes, 1, 2) }))
	got, errno = index.Delete(sample(), "a/b")
	expect(t, "Delete", got, errno, api.OK, changed(func(x *index.Index) { x.Boxes = x.Boxes[:2] }))
	for name, want := range map[string]api.Errno{"INBOX": api.ErrArg, "inbox": api.ErrNone, "": api.ErrNone, "a b": api.ErrNone, "x": api.ErrNone} {
		got, errno := index.Delete(sample(), name)
		expect(t, "Delete of "+name, got, errno, want, index.Index{})
	}
}

func TestP15_2Rename(t *testing.T) {
	for to, at := range map[string]int{"A": 1, "Z": 1, "zz": 2, "Drafts2": 1} {
		got, errno := index.Rename(sample(), "Drafts", to)
		want := changed(func(x *index.Index) {
			b := x.Boxes[1]
			b.Name = to
			x.Boxes = slices.Insert(slices.Delete(x.Boxes, 1, 2), at, b)
		})
		expect(t, "Rename to "+to, got, errno, api.OK, want)
	}
	for _, c := range []struct {
		x        index.Index
		from, to string
		want     api.Errno
	}{
		{sample(), "Drafts", "", api.ErrArg}, {sample(), "none", "a b", api.ErrArg}, {sample(), "none", "new", api.ErrNone},
		{sample(), "none", "a/b", api.ErrNone}, {sample(), "Drafts", "a/b", api.ErrThere}, {sample(), "Drafts", "Drafts", api.ErrThere},
		{sample(), "Drafts", "INBOX", api.ErrThere}, {sample(), "INBOX", "INBOX", api.ErrThere}, {sample(), "INBOX", "a/b", api.ErrThere},
		{sample(), "INBOX", "*", api.ErrArg}, {sample(), "", "new", api.ErrNone}, {full(), "INBOX", "new", api.ErrFull},
		{full(), "INBOX", "A", api.ErrThere}, {changed(func(x *index.Index) { x.Given = most }), "INBOX", "new", api.ErrFull},
	} {
		got, errno := index.Rename(c.x, c.from, c.to)
		expect(t, "Rename of "+c.from+" to "+c.to, got, errno, c.want, index.Index{})
	}
	if got, errno := index.Rename(full(), "A", "new"); errno != api.OK || len(got.Boxes) != 6 || !index.Right(got) {
		t.Errorf("Rename in a full index = %d", errno)
	}
}

func TestP15_2RenameInbox(t *testing.T) {
	got, errno := index.Rename(sample(), "INBOX", "E")
	want := changed(func(x *index.Index) {
		x.Boxes = slices.Insert(x.Boxes, 2, index.Box{Name: "E", Validity: 7, Next: 9, Mails: x.Boxes[0].Mails})
		x.Boxes[0].Mails = nil
		x.Given = 8
	})
	expect(t, "Rename of INBOX", got, errno, api.OK, want)
}

func TestP15_2Subscribe(t *testing.T) {
	for _, c := range []struct {
		x    index.Index
		name string
		yes  bool
		want []string
	}{
		{sample(), "A", true, []string{"A", "INBOX", "x"}}, {sample(), "M", true, []string{"INBOX", "M", "x"}}, {sample(), "z", true, []string{"INBOX", "x", "z"}},
		{sample(), "x", true, []string{"INBOX", "x"}}, {sample(), "x", false, []string{"INBOX"}}, {sample(), "INBOX", false, []string{"x"}},
		{sample(), "y", false, []string{"INBOX", "x"}}, {index.New(), "no/such", true, []string{"no/such"}}, {index.New(), "a", false, nil},
		{full(), "s3", true, full().Subs}, {full(), "other", false, full().Subs}, {full(), "s0", false, full().Subs[1:]},
	} {
		got, errno := index.Subscribe(c.x, c.name, c.yes)
		want := c.x
		want.Subs = c.want
		expect(t, fmt.Sprint("Subscribe ", c.name, " ", c.yes), got, errno, api.OK, want)
	}
	for _, c := range []struct {
		x    index.Index
		name string
		yes  bool
		want api.Errno
	}{
		{sample(), "", true, api.ErrArg}, {sample(), "a b", false, api.ErrArg}, {full(), "new", true, api.ErrFull}, {full(), "*", true, api.ErrArg},
	} {
		got, errno := index.Subscribe(c.x, c.name, c.yes)
		expect(t, "Subscribe "+c.name, got, errno, c.want, index.Index{})
	}
}

func TestP15_3Append(t *testing.T) {
	for _, m := range []index.Mail{{Object: 1, Size: 0, Flags: 0}, {Object: most, Size: 700, Flags: 63}, {Object: 50, Size: 5, Flags: 33}} {
		got, uid, errno := index.Append(sample(), "Drafts", m.Object, m.Size, m.Flags)
		want := changed(func(x *index.Index) {
			x.Boxes[1].Mails = append(x.Boxes[1].Mails, index.Mail{UID: 3, Object: m.Object, Size: m.Size, Flags: m.Flags})
			x.Boxes[1].Next = 4
		})
		expect(t, "Append", got, errno, api.OK, want)
		if uid != 3 {
			t.Errorf("Append = UID %d", uid)
		}
	}
	last := changed(func(x *index.Index) { x.Boxes[2].Next = most })
	almost := changed(func(x *index.Index) { x.Boxes[2].Next = most - 1 })
	fullLast := full()
	fullLast.Boxes[2].Next = most
	for _, c := range []struct {
		x                   index.Index
		name                string
		object, size, flags int
		want                api.Errno
	}{
		{sample(), "INBOX", 0, 1, 1, api.ErrArg}, {sample(), "INBOX", -1, 1, 1, api.ErrArg}, {sample(), "INBOX", most + 1, 1, 1, api.ErrArg},
		{sample(), "INBOX", 1, -1, 1, api.ErrArg}, {sample(), "INBOX", 1, 701, 1, api.ErrArg}, {sample(), "INBOX", 1, 1, -1, api.ErrArg},
		{sample(), "INBOX", 1, 1, 64, api.ErrArg}, {sample(), "none", 0, 1, 1, api.ErrArg}, {sample(), "none", 1, 1, 1, api.ErrNone},
		{full(), "none", 1, 1, 1, api.ErrNone}, {full(), "A", 1, 1, 1, api.ErrQuota}, {fullLast, "/", 1, 1, 1, api.ErrQuota},
		{last, "a/b", 1, 1, 1, api.ErrFull}, {last, "a/b", math.MaxInt, 1, 1, api.ErrArg},
	} {
		got, uid, errno := index.Append(c.x, c.name, c.object, c.size, c.flags)
		expect(t, "Append to "+c.name, got, errno, c.want, index.Index{})
		if uid != 0 {
			t.Errorf("Append to %s = UID %d", c.name, uid)
		}
	}
	if got, uid, errno := index.Append(almost, "a/b", 1, 1, 1); errno != api.OK || uid != most-1 || got.Boxes[2].Next != most || !index.Right(got) {
		t.Errorf("Append of the last UID = %d, %d", uid, errno)
	}
}

func TestP15_3Flag(t *testing.T) {
	for _, flags := range []int{0, 1, 63} {
		for at, uid := range []int{2, 5, 8} {
			got, errno := index.Flag(sample(), "INBOX", uid, flags)
			expect(t, "Flag", got, errno, api.OK, changed(func(x *index.Index) { x.Boxes[0].Mails[at].Flags = flags }))
		}
	}
	for _, c := range []struct {
		name       string
		uid, flags int
		want       api.Errno
	}{
		{"INBOX", 5, 64, api.ErrArg}, {"INBOX", 5, -1, api.ErrArg}, {"none", 5, 64, api.ErrArg}, {"none", 5, 1, api.ErrNone},
		{"INBOX", 4, 1, api.ErrNone}, {"INBOX", 0, 1, api.ErrNone}, {"a/b", 1, 1, api.ErrNone}, {"INBOX", -5, 1, api.ErrNone},
	} {
		got, errno := index.Flag(sample(), c.name, c.uid, c.flags)
		expect(t, "Flag of "+c.name, got, errno, c.want, index.Index{})
	}
}

func TestP15_3Expunge(t *testing.T) {
	for at, uid := range []int{2, 5, 8} {
		got, errno := index.Expunge(sample(), "INBOX", uid)
		expect(t, "Expunge", got, errno, api.OK, changed(func(x *index.Index) { x.Boxes[0].Mails = slices.Delete(x.Boxes[0].Mails, at, at+1) }))
	}
	for name, uid := range map[string]int{"none": 1, "INBOX": 3, "a/b": 1, "Drafts": 2} {
		got, errno := index.Expunge(sample(), name, uid)
		expect(t, "Expunge of "+name, got, errno, api.ErrNone, index.Index{})
	}
}

func TestP15_3Copy(t *testing.T) {
	for _, to := range []string{"INBOX", "Drafts", "a/b"} {
		for _, from := range []int{2, 5, 8} {
			m := mail(from)
			got, uid, errno := index.Copy(sample(), "INBOX", from, to)
			want, wantUID, _ := index.Append(sample(), to, m.Object, m.Size, m.Flags)
			expect(t, "Copy to "+to, got, errno, api.OK, want)
			if uid != wantUID {
				t.Errorf("Copy to %s = UID %d", to, uid)
			}
		}
	}
	last := changed(func(x *index.Index) { x.Boxes[2].Next = most })
	for _, c := range []struct {
		x    index.Index
		from string
		uid  int
		to   string
		want api.Errno
	}{
		{sample(), "none", 5, "Drafts", api.ErrNone}, {sample(), "INBOX", 4, "Drafts", api.ErrNone}, {sample(), "INBOX", 5, "none", api.ErrNone},
		{full(), "INBOX", 1, "A", api.ErrQuota}, {full(), "INBOX", 1, "none", api.ErrNone}, {last, "INBOX", 5, "a/b", api.ErrFull}, {last, "INBOX", 6, "a/b", api.ErrNone},
	} {
		got, uid, errno := index.Copy(c.x, c.from, c.uid, c.to)
		expect(t, "Copy from "+c.from+" to "+c.to, got, errno, c.want, index.Index{})
		if uid != 0 {
			t.Errorf("Copy = UID %d", uid)
		}
	}
}

func TestP15_ArgumentsStay(t *testing.T) {
	x := sample()
	index.Create(x, "A")
	index.Delete(x, "Drafts")
	index.Rename(x, "Drafts", "zz")
	index.Rename(x, "INBOX", "zz")
	index.Subscribe(x, "A", true)
	index.Subscribe(x, "INBOX", false)
	index.Append(x, "INBOX", 1, 1, 1)
	index.Flag(x, "INBOX", 5, 9)
	index.Expunge(x, "INBOX", 2)
	index.Copy(x, "INBOX", 5, "Drafts")
	index.Objects(x)
	if !reflect.DeepEqual(x, sample()) {
		t.Errorf("an argument was changed: %v", x)
	}
	// Two indexes that grow from the same one do not meet.
	y, _, _ := index.Append(x, "INBOX", 1, 1, 1)
	one, _, _ := index.Append(y, "INBOX", 2, 2, 2)
	two, _, _ := index.Append(y, "INBOX", 3, 3, 3)
	if one.Boxes[0].Mails[4].Object != 2 || two.Boxes[0].Mails[4].Object != 3 {
		t.Error("two indexes share a message")
	}
}

// A long run of all functions: what they return is valid, and no UID is assigned twice.
func TestP15_4Run(t *testing.T) {
	x := index.New()
	names := []string{"INBOX", "a", "b", "c", "d", "e", "f", "g"}
	assigned := map[string]bool{}
	next := map[int]int{}
	seed := uint32(7)
	random := func(n int) int {
		seed = seed*1664525 + 1013904223
		return int(seed>>10) % n
	}
	note := func(name string, uid int, errno api.Errno) {
		if errno != api.OK {
			return
		}
		key := fmt.Sprint(x.Boxes[index.Find(x, name)].Validity, "/", uid)
		if assigned[key] {
			t.Fatalf("UID %s was assigned twice", key)
		}
		assigned[key] = true
	}
	for range 5000 {
		a, b := names[random(len(names))], names[random(len(names))]
		var y index.Index
		var uid int
		var errno api.Errno
		switch random(9) {
		case 0:
			y, errno = index.Create(x, a)
		case 1:
			y, errno = index.Delete(x, a)
		case 2:
			y, errno = index.Rename(x, a, b)
		case 3:
			y, errno = index.Subscribe(x, a, random(2) == 0)
		case 4, 5:
			y, uid, errno = index.Append(x, a, 1+random(50), random(701), random(64))
			note(a, uid, errno)
		case 6:
			y, errno = index.Flag(x, a, 1+random(40), random(64))
		case 7:
			y, errno = index.Expunge(x, a, 1+random(40))
		case 8:
			y, uid, errno = index.Copy(x, a, 1+random(40), b)
			note(b, uid, errno)
		}
		if errno != api.OK {
			continue
		}
		if !index.Right(y) {
			t.Fatalf("not valid: %v", y)
		}
		s, errno := index.Put(y)
		if z, errno2 := index.Take(s); errno != api.OK || errno2 != api.OK || !same(y, z) {
			t.Fatalf("Take of Put: %d, %d", errno, errno2)
		}
		x = y
		for _, b := range x.Boxes {
			if b.Next < next[b.Validity] {
				t.Fatalf("Next of %s decreases", b.Name)
			}
			next[b.Validity] = b.Next
		}
	}
}
