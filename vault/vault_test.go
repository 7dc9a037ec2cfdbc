package vault_test

import (
	"fmt"
	"reflect"
	"slices"
	"strings"
	"testing"

	"mailsack/aead"
	"mailsack/api"
	"mailsack/disk"
	"mailsack/index"
	"mailsack/ladder"
	"mailsack/mac"
	"mailsack/ring"
	"mailsack/seal"
	"mailsack/store"
	"mailsack/vault"
	"mailsack/wal"
)

func bytesOf(n int, with int) string {
	out := make([]byte, n)
	for i := range out {
		out[i] = byte(i*i*3 + i*41 + with*with + with*7)
	}
	return string(out)
}

func fresh(with int) ring.Fresh {
	return ring.Fresh{Salt: bytesOf(16, with), Nonce: bytesOf(12, with+1), Private: bytesOf(32, with+2), Rounds: 1 + with%2}
}

func nonce(with int) string { return bytesOf(12, with+50) }
func once(with int) string  { return bytesOf(32, with+90) }

func put(name, s string) store.Change { return store.Change{Name: name, Data: s} }
func gone(name string) store.Change   { return store.Change{Name: name, Gone: true} }

func apply(t *testing.T, d disk.Disk, l ...store.Change) disk.Disk {
	t.Helper()
	d, errno := store.Apply(d, l)
	if errno != api.OK {
		t.Fatalf("Apply: %d", errno)
	}
	return d
}

func equal(a, b disk.Disk) bool {
	return slices.Equal(a.Sectors, b.Sectors) && slices.Equal(a.Cache, b.Cache)
}

func none(d disk.Disk) bool { return len(d.Sectors) == 0 && len(d.Cache) == 0 }

func noSession(s vault.Session) bool { return reflect.DeepEqual(s, vault.Session{}) }

// objects returns the contents of all objects.
func objects(d disk.Disk) map[string]string {
	m := map[string]string{}
	for _, name := range store.Names(d) {
		s, _ := store.Get(d, name)
		m[name] = s
	}
	return m
}

func expectObjects(t *testing.T, what string, d disk.Disk, want map[string]string) {
	t.Helper()
	got := objects(d)
	for name, s := range want {
		if g, ok := got[name]; !ok || g != s {
			t.Errorf("%s: object %s: %d bytes, %v, want %d bytes", what, name, len(g), ok, len(s))
		}
	}
	if len(got) != len(want) {
		t.Errorf("%s: objects %q, want %d", what, store.Names(d), len(want))
	}
	if len(d.Cache) != 0 {
		t.Errorf("%s: %d pending writes", what, len(d.Cache))
	}
}

// with returns m with some objects replaced; those with the value gone are removed.
func with(m map[string]string, pairs ...string) map[string]string {
	out := map[string]string{}
	for k, v := range m {
		out[k] = v
	}
	for i := 0; i < len(pairs); i += 2 {
		if pairs[i+1] == "gone" {
			delete(out, pairs[i])
		} else {
			out[pairs[i]] = pairs[i+1]
		}
	}
	return out
}

func encoded(a ring.Account) string {
	s, _ := ring.Put(a)
	return s
}

func sealedText(user, private, nonce, s string) string {
	key, _ := mac.Draw(private, "", "index", 32)
	sealed, _ := aead.Seal(key, nonce, user, s)
	return nonce + sealed
}

func sealed(user, private, nonce string, x index.Index) string {
	s, _ := index.Put(x)
	return sealedText(user, private, nonce, s)
}

func mail(epoch byte, private, once, text string) string {
	public, _ := ladder.Public(private)
	box, _ := seal.Box(public, once, text)
	return string([]byte{epoch}) + box
}

func made(t *testing.T, user string) (disk.Disk, ring.Account, ring.Fresh) {
	t.Helper()
	f := fresh(1)
	a, errno := ring.Make(user, "pw", f)
	if errno != api.OK {
		t.Fatal(errno)
	}
	return apply(t, store.Format(), put("u/"+user, encoded(a)), put("x/"+user, sealed(user, f.Private, f.Nonce, index.New()))), a, f
}

// session returns the session of a new user whose index is x, on a disk that has x.
func session(t *testing.T, x index.Index) (disk.Disk, vault.Session) {
	d, _, f := made(t, "al")
	d = apply(t, d, put("x/al", sealed("al", f.Private, nonce(0), x)))
	return d, vault.Session{User: "al", Private: f.Private, Index: x}
}

func TestP16_1Numbers(t *testing.T) {
	d := store.Format()
	for _, name := range []string{"m/al/10", "m/al/9", "m/al/1", "m/al/01", "m/al/x", "m/al/", "m/al/2x", "m/al/-3", "m/al/+4", "m/al/5/6",
		"m/alx/7", "m/a/8", "m/al/4294967295", "q/al/3", "m/al/ 1", "kk/al/6", "/al/4", "M/al/2", "m/al"} {
		d = apply(t, d, put(name, ""))
	}
	for _, c := range []struct {
		kind, user string
		want       []int
	}{
		{"m", "al", []int{1, 9, 10, 4294967295}}, {"q", "al", []int{3}}, {"m", "alx", []int{7}}, {"m", "a", []int{8}}, {"kk", "al", []int{6}},
		{"", "al", []int{4}}, {"m", "", nil}, {"m", "bo", nil}, {"k", "al", nil}, {"m/al", "5", []int{6}}, {"m", "al/5", []int{6}}, {"M", "al", []int{2}},
	} {
		if got := vault.Numbers(d, c.kind, c.user); !slices.Equal(got, c.want) {
			t.Errorf("Numbers(%q, %q) = %v, want %v", c.kind, c.user, got, c.want)
		}
	}
	if got := vault.Numbers(disk.Disk{}, "m", "al"); len(got) != 0 {
		t.Errorf("Numbers of no disk = %v", got)
	}
}

func TestP16_1Account(t *testing.T) {
	d, a, _ := made(t, "al")
	if got, errno := vault.Account(d, "al"); errno != api.OK || got != a {
		t.Errorf("Account = %v, %d", got, errno)
	}
	d = apply(t, d, put("u/bo", encoded(a)), put("u/c", encoded(a)[1:]), put("u/e", ""))
	for user, want := range map[string]api.Errno{"": api.ErrNone, "a": api.ErrNone, "AL": api.ErrNone, "bo": api.ErrForm, "c": api.ErrForm, "e": api.ErrForm} {
		if got, errno := vault.Account(d, user); errno != want || got != (ring.Account{}) {
			t.Errorf("Account of %q = %v, %d", user, got, errno)
		}
	}
}

func TestP16_2Add(t *testing.T) {
	f := fresh(1)
	want, a, _ := made(t, "al")
	d, errno := vault.Add(store.Format(), "al", "pw", f)
	if errno != api.OK {
		t.Fatalf("Add = %d", errno)
	}
	wantObjects := map[string]string{"u/al": encoded(a), "x/al": sealed("al", f.Private, f.Nonce, index.New())}
	expectObjects(t, "Add", d, wantObjects)
	expectObjects(t, "made", want, wantObjects)
	refused := func(what string, d disk.Disk, user string, f ring.Fresh, want api.Errno) {
		t.Helper()
		if got, errno := vault.Add(d, user, "pw", f); errno != want || !none(got) {
			t.Errorf("%s: Add = %d", what, errno)
		}
	}
	wrong := fresh(2)
	wrong.Salt = ""
	refused("there", d, "al", fresh(2), api.ErrThere)
	refused("there, wrong values", d, "al", wrong, api.ErrArg)
	refused("a wrong name", d, "Al", fresh(2), api.ErrArg)
	refused("an object that is no account", apply(t, store.Format(), put("u/al", "x")), "al", fresh(2), api.ErrThere)
	refused("no disk", disk.Disk{}, "al", fresh(2), api.ErrArg)
	full := store.Format()
	for i := range 23 {
		full = apply(t, full, put(fmt.Sprint("s", i), ""))
	}
	refused("a full disk", full, "al", fresh(2), api.ErrFull)
	// An index without an account is replaced.
	if got, errno := vault.Add(apply(t, store.Format(), put("x/al", "x")), "al", "pw", f); errno != api.OK {
		t.Errorf("Add = %d", errno)
	} else {
		expectObjects(t, "Add", got, wantObjects)
	}
}

func TestP16_2Delivery(t *testing.T) {
	d, a, f := made(t, "al")
	for i, c := range []struct {
		there []string
		want  int
	}{{nil, 1}, {[]string{"m/al/1"}, 2}, {[]string{"m/al/7", "m/al/3"}, 8}, {[]string{"q/al/9", "m/bo/5"}, 1}, {[]string{"m/al/9", "m/al/10"}, 11}} {
		e := d
		for _, name := range c.there {
			e = apply(t, e, put(name, "x"))
		}
		text := bytesOf(i*150, i)
		changes, number, errno := vault.Delivery(e, "al", once(i), text)
		want := []store.Change{put(fmt.Sprint("m/al/", c.want), mail(0, f.Private, once(i), text)), put(fmt.Sprint("q/al/", c.want), "")}
		if errno != api.OK || number != c.want || !slices.Equal(changes, want) {
			t.Errorf("Delivery to %v = %d, %d", c.there, number, errno)
		}
		got, number, errno := vault.Deliver(e, "al", once(i), text)
		if errno != api.OK || number != c.want {
			t.Errorf("Deliver to %v = %d, %d", c.there, number, errno)
		}
		expectObjects(t, "Deliver", got, with(objects(e), want[0].Name, want[0].Data, want[1].Name, ""))
	}
	a.Epoch = 1
	changes, number, errno := vault.Delivery(apply(t, d, put("u/al", encoded(a))), "al", once(1), "text")
	if errno != api.OK || number != 1 || changes[0].Data != mail(1, f.Private, once(1), "text") {
		t.Errorf("Delivery in epoch 1 = %d, %d", number, errno)
	}
}

func TestP16_2DeliveryErrors(t *testing.T) {
	d, _, _ := made(t, "al")
	long := bytesOf(701, 1)
	broken := apply(t, d, put("u/al", "x"))
	for _, c := range []struct {
		what             string
		d                disk.Disk
		user, once, text string
		want             api.Errno
	}{
		{"no user", d, "bo", once(1), "x", api.ErrNone}, {"no user, long", d, "bo", "", long, api.ErrNone}, {"a broken account", broken, "al", "", long, api.ErrForm},
		{"no scalar", d, "al", "", "x", api.ErrArg}, {"a long text", d, "al", once(1), long, api.ErrLong}, {"both", d, "al", once(1)[1:], long, api.ErrArg},
	} {
		if l, n, errno := vault.Delivery(c.d, c.user, c.once, c.text); errno != c.want || n != 0 || len(l) != 0 {
			t.Errorf("%s: Delivery = %d, %d", c.what, n, errno)
		}
		if e, n, errno := vault.Deliver(c.d, c.user, c.once, c.text); errno != c.want || n != 0 || !none(e) {
			t.Errorf("%s: Deliver = %d, %d", c.what, n, errno)
		}
	}
}

// used returns a sector that is a slot, so that stores with many objects are made fast.
func used(class, block int, name string) string {
	s := string([]byte{1, byte(class), byte(block), 0, 0, byte(len(name))}) + name
	return s + strings.Repeat("\x00", 64-len(s))
}

func TestP16_2Quota(t *testing.T) {
	for _, count := range []int{29, 30} {
		d, a, _ := made(t, "al")
		e := store.Format()
		e.Sectors[61] = d.Sectors[61] // the account
		e.Sectors[93] = d.Sectors[93]
		copy(e.Sectors[93:97], d.Sectors[93:97])
		for i := range count {
			// Several slots refer to the same block: it is the names that count.
			e.Sectors[62+i] = used(0, 5, fmt.Sprint("m/al/", i+1))
		}
		if got, errno := vault.Account(e, "al"); errno != api.OK || got != a {
			t.Fatalf("Account = %d", errno)
		}
		want := api.OK
		if count == 30 {
			want = api.ErrQuota
		}
		l, n, errno := vault.Delivery(e, "al", once(1), "x")
		if errno != want || want == api.OK && n != 30 || want != api.OK && (n != 0 || len(l) != 0) {
			t.Errorf("Delivery with %d messages = %d, %d", count, n, errno)
		}
		if _, _, errno := vault.Delivery(e, "al", "", bytesOf(701, 1)); want != api.OK && errno != want {
			t.Errorf("Delivery with %d messages, of a long text = %d", count, errno)
		}
		if e2, n, errno := vault.Deliver(e, "al", once(1), "x"); want != api.OK && (errno != want || n != 0 || !none(e2)) {
			t.Errorf("Deliver with %d messages = %d, %d", count, n, errno)
		}
	}
}

func TestP16_2DeliverFull(t *testing.T) {
	d, _, _ := made(t, "al")
	deliver := func(what string, d disk.Disk, text string, want api.Errno) {
		t.Helper()
		e, n, errno := vault.Deliver(d, "al", once(1), text)
		if errno != want || want != api.OK && (n != 0 || !none(e)) {
			t.Errorf("%s: Deliver = %d, %d, want %d", what, n, errno, want)
		}
	}
	smalls, larges := d, d
	for i := range 24 {
		left := 24 - 2 - i
		what := fmt.Sprint(left, " small blocks left")
		switch {
		case left >= 3:
			deliver(what, smalls, "x", api.OK)
		case left >= 0:
			deliver(what, smalls, "x", api.ErrFull) // two blocks for the message, and one to spare
		}
		if left == 2 {
			deliver(what+", a large text", smalls, bytesOf(200, 1), api.OK)
		}
		if left == 1 {
			deliver(what+", a large text", smalls, bytesOf(200, 1), api.ErrFull)
			break
		}
		smalls = apply(t, smalls, put(fmt.Sprint("s", i), ""))
	}
	for i := range 12 {
		left := 12 - i
		want := api.OK
		if left < 2 {
			want = api.ErrFull
		}
		deliver(fmt.Sprint(left, " large blocks left"), larges, bytesOf(200, 1), want)
		deliver(fmt.Sprint(left, " large blocks left, a small text"), larges, "x", api.OK)
		larges = apply(t, larges, put(fmt.Sprint("l", i), bytesOf(300, 1)))
	}
	deliver("no large block left, a small text", larges, "x", api.ErrFull)
	// Slots run out: 32 of them, of which the account, the index, the message and its mark take four.
	slots := d
	for i := range 27 {
		slots.Sectors = slices.Clone(slots.Sectors)
		slots.Sectors[63+i] = used(0, 9, fmt.Sprint("k", i))
	}
	deliver("three slots left", slots, "x", api.OK)
	slots.Sectors = slices.Clone(slots.Sectors)
	slots.Sectors[90] = used(0, 9, "k27")
	deliver("two slots left", slots, "x", api.ErrFull)
	slots.Sectors[90] = used(0, 9, "spare")
	deliver("two slots left, and a spare", slots, "x", api.OK)
}

func TestP16_3Login(t *testing.T) {
	d, a, f := made(t, "al")
	s, e, errno := vault.Login(d, "al", "pw", nonce(1))
	want := vault.Session{User: "al", Private: f.Private, Index: index.New()}
	if errno != api.OK || !reflect.DeepEqual(s.Index.Boxes[0], want.Index.Boxes[0]) || s.User != "al" || s.Private != f.Private || s.Old != "" || s.Epoch != 0 {
		t.Errorf("Login = %v, %d", s, errno)
	}
	if !equal(e, d) {
		t.Error("Login without messages changes the disk")
	}
	g := fresh(5)
	r, _ := ring.Rotate(a, "pw", g)
	d = apply(t, d, put("u/al", encoded(r)), put("x/al", sealed("al", g.Private, nonce(2), index.New())))
	s, _, errno = vault.Login(d, "al", "pw", nonce(1))
	if errno != api.OK || s.Private != g.Private || s.Old != f.Private || s.Epoch != 1 {
		t.Errorf("Login in a rotation = %v, %d", s, errno)
	}
}

func TestP16_3LoginErrors(t *testing.T) {
	d, a, f := made(t, "al")
	x, _ := index.Put(index.New())
	r, _ := ring.Rotate(a, "pw", fresh(5))
	r.Old = bytesOf(48, 1)
	other := func(name, s string) disk.Disk { return apply(t, d, put(name, s)) }
	for _, c := range []struct {
		what                  string
		d                     disk.Disk
		user, password, nonce string
		want                  api.Errno
	}{
		{"no nonce", d, "al", "pw", "", api.ErrArg}, {"a short nonce", d, "bo", "pw", nonce(1)[1:], api.ErrArg}, {"a long nonce", d, "al", "pw", nonce(1) + "x", api.ErrArg},
		{"no user", d, "bo", "pw", nonce(1), api.ErrNone}, {"a broken account", other("u/al", "x"), "al", "no", nonce(1), api.ErrForm},
		{"a wrong password", d, "al", "no", nonce(1), api.ErrPass}, {"a wrong password, no index", apply(t, d, gone("x/al")), "al", "no", nonce(1), api.ErrPass},
		{"a wrong old key", other("u/al", encoded(r)), "al", "pw", nonce(1), api.ErrForm},
		{"no index", apply(t, d, gone("x/al")), "al", "pw", nonce(1), api.ErrForm},
		{"an empty index", other("x/al", ""), "al", "pw", nonce(1), api.ErrForm},
		{"11 bytes", other("x/al", nonce(1)[1:]), "al", "pw", nonce(1), api.ErrForm},
		{"a nonce alone", other("x/al", nonce(1)), "al", "pw", nonce(1), api.ErrForm},
		{"another key", other("x/al", sealedText("al", once(1), nonce(3), x)), "al", "pw", nonce(1), api.ErrForm},
		{"another user's", other("x/al", sealedText("bo", f.Private, nonce(3), x)), "al", "pw", nonce(1), api.ErrForm},
		{"no encoding", other("x/al", sealedText("al", f.Private, nonce(3), "")), "al", "pw", nonce(1), api.ErrForm},
		{"a wrong encoding", other("x/al", sealedText("al", f.Private, nonce(3), x+"x")), "al", "pw", nonce(1), api.ErrForm},
	} {
		if s, e, errno := vault.Login(c.d, c.user, c.password, c.nonce); errno != c.want || !noSession(s) || !none(e) {
			t.Errorf("%s: Login = %d, want %d", c.what, errno, c.want)
		}
	}
}

// texts returns a store in which messages with these numbers wait.
func waiting(t *testing.T, numbers ...int) (disk.Disk, vault.Session) {
	d, _, f := made(t, "al")
	for _, n := range numbers {
		d = apply(t, d, put(fmt.Sprint("m/al/", n), mail(0, f.Private, once(n), bytesOf(n, n))), put(fmt.Sprint("q/al/", n), ""))
	}
	return d, vault.Session{User: "al", Private: f.Private, Index: index.New()}
}

func TestP16_3Merge(t *testing.T) {
	d, s := waiting(t, 12, 9, 3)
	before := objects(d)
	got, e, errno := vault.Login(d, "al", "pw", nonce(1))
	want := index.Index{Given: 2, Boxes: []index.Box{{Name: "INBOX", Validity: 1, Next: 4, Mails: []index.Mail{
		{UID: 1, Flags: 32, Object: 3, Size: 3}, {UID: 2, Flags: 32, Object: 9, Size: 9}, {UID: 3, Flags: 32, Object: 12, Size: 12}}}}}
	if errno != api.OK || !slices.Equal(got.Index.Boxes[0].Mails, want.Boxes[0].Mails) || got.Index.Boxes[0].Next != 4 {
		t.Errorf("Login = %v, %d", got.Index, errno)
	}
	expectObjects(t, "Login", e, with(before, "x/al", sealed("al", s.Private, nonce(1), want), "q/al/3", "gone", "q/al/9", "gone", "q/al/12", "gone"))
	again, e2, errno := vault.Login(e, "al", "pw", nonce(2))
	if errno != api.OK || !equal(e, e2) || !slices.Equal(again.Index.Boxes[0].Mails, want.Boxes[0].Mails) {
		t.Errorf("Login again = %d", errno)
	}
}

func TestP16_3MergeTenAtATime(t *testing.T) {
	// Marks alone: a message whose text cannot be read is merged with size 0.
	d, _, f := made(t, "al")
	for n := range 13 {
		d = apply(t, d, put(fmt.Sprint("q/al/", n+1), ""))
	}
	d = apply(t, d, put("m/al/2", mail(0, f.Private, once(1), "text")), put("m/al/3", mail(1, f.Private, once(1), "text")))
	s, e, errno := vault.Login(d, "al", "pw", nonce(1))
	mails := s.Index.Boxes[0].Mails
	if errno != api.OK || len(mails) != 10 || !slices.Equal(vault.Numbers(e, "q", "al"), []int{11, 12, 13}) {
		t.Fatalf("Login = %d messages, %d", len(mails), errno)
	}
	for i, m := range mails {
		want := index.Mail{UID: i + 1, Flags: 32, Object: i + 1}
		if i == 1 {
			want.Size = 4
		}
		if m != want {
			t.Errorf("message %d: %v", i, m)
		}
	}
	s, e, errno = vault.Login(e, "al", "pw", nonce(2))
	if mails := s.Index.Boxes[0].Mails; errno != api.OK || len(mails) != 13 || len(vault.Numbers(e, "q", "al")) != 0 {
		t.Errorf("Login again = %d messages, %d", len(mails), errno)
	}
}

func manyMails(n int) index.Index {
	x := index.New()
	for i := range n {
		x, _, _ = index.Append(x, "INBOX", 100+i, i, 0)
	}
	return x
}

func TestP16_3MergeRefused(t *testing.T) {
	d, s := session(t, manyMails(28))
	for n := range 4 {
		d = apply(t, d, put(fmt.Sprint("q/al/", n+1), ""))
	}
	got, e, errno := vault.Login(d, "al", "pw", nonce(1))
	if errno != api.OK || len(got.Index.Boxes[0].Mails) != 30 || !slices.Equal(vault.Numbers(e, "q", "al"), []int{3, 4}) {
		t.Errorf("Login = %d messages, %d", len(got.Index.Boxes[0].Mails), errno)
	}
	d, _ = session(t, manyMails(30))
	d = apply(t, d, put("q/al/1", ""))
	got, e, errno = vault.Login(d, "al", "pw", nonce(1))
	if errno != api.OK || len(got.Index.Boxes[0].Mails) != 30 || !equal(d, e) {
		t.Errorf("Login with a full index = %d", errno)
	}
	// Where Apply returns an error nothing is merged.
	d, _ = session(t, s.Index)
	d = apply(t, d, put("q/al/1", ""))
	for i := range 11 {
		d = apply(t, d, put(fmt.Sprint("l", i), bytesOf(300, i)))
	}
	got, e, errno = vault.Login(d, "al", "pw", nonce(1))
	if errno != api.OK || len(got.Index.Boxes[0].Mails) != 28 || !equal(d, e) {
		t.Errorf("Login on a full disk = %d messages, %d", len(got.Index.Boxes[0].Mails), errno)
	}
}

func TestP16_3Text(t *testing.T) {
	private, old := fresh(1).Private, fresh(2).Private
	d := apply(t, store.Format(), put("m/al/1", mail(0, private, once(1), "current")), put("m/al/2", mail(1, old, once(2), "previous")))
	d = apply(t, d, put("m/al/3", mail(255, private, once(3), "255")), put("m/al/4", ""))
	d = apply(t, d, put("m/al/5", mail(0, old, once(5), "wrong key")), put("m/al/6", "\x00"+bytesOf(60, 1)))
	d = apply(t, d, put("m/al/7", "\x00short"), put("m/al/8", mail(0, private, once(8), "")))
	for _, c := range []struct {
		private, old string
		epoch        int
		number       int
		text         string
		want         api.Errno
	}{
		{private, old, 0, 1, "current", api.OK}, {private, old, 0, 2, "previous", api.OK}, {private, "", 0, 2, "", api.ErrForm}, {private, old, 256, 1, "current", api.OK},
		{private, old, -256, 1, "current", api.OK}, {private, old, 255, 3, "255", api.OK}, {private, old, -1, 3, "255", api.OK}, {private, old, 0, 3, "", api.ErrForm},
		{old, private, 1, 1, "current", api.OK}, {old, private, 1, 2, "previous", api.OK}, {old, private, 0, 1, "", api.ErrForm},
		{private, old, 0, 4, "", api.ErrForm}, {private, old, 0, 5, "", api.ErrForm}, {private, old, 0, 6, "", api.ErrForm}, {private, old, 0, 7, "", api.ErrForm},
		{private, old, 0, 8, "", api.OK}, {private, old, 0, 9, "", api.ErrNone}, {private, old, 0, 0, "", api.ErrNone}, {private, old, 0, -1, "", api.ErrNone},
		{"", "", 0, 1, "", api.ErrForm}, {private[1:], old, 0, 1, "", api.ErrForm},
	} {
		s := vault.Session{User: "al", Private: c.private, Old: c.old, Epoch: c.epoch}
		if text, errno := vault.Text(d, s, c.number); errno != c.want || text != c.text {
			t.Errorf("Text of %d in epoch %d = %q, %d, want %q, %d", c.number, c.epoch, text, errno, c.text, c.want)
		}
	}
	if text, errno := vault.Text(d, vault.Session{User: "bo", Private: private}, 1); errno != api.ErrNone || text != "" {
		t.Errorf("Text of another user = %q, %d", text, errno)
	}
	if text, errno := vault.Text(disk.Disk{}, vault.Session{User: "al", Private: private}, 1); errno == api.OK || text != "" {
		t.Errorf("Text on no disk = %q, %d", text, errno)
	}
}

func TestP16_4Save(t *testing.T) {
	x := index.New()
	for _, object := range []int{1, 2, 2, 3, 9} {
		x, _, _ = index.Append(x, "INBOX", object, 5, 0)
	}
	d, s := session(t, x)
	for _, n := range []int{1, 2, 3, 4, 5} {
		d = apply(t, d, put(fmt.Sprint("m/al/", n), "text"), put(fmt.Sprint("m/bo/", n), ""))
	}
	d = apply(t, d, put("q/al/1", ""))
	before := objects(d)
	y, _ := index.Expunge(x, "INBOX", 1)
	y, _ = index.Expunge(y, "INBOX", 2)
	y, _ = index.Expunge(y, "INBOX", 5)
	y, _, _ = index.Append(y, "INBOX", 5, 1, 1)
	got, e, errno := vault.Save(d, s, y, nonce(1))
	if errno != api.OK || !reflect.DeepEqual(got.Index, y) || got.User != s.User || got.Private != s.Private {
		t.Errorf("Save = %v, %d", got, errno)
	}
	expectObjects(t, "Save", e, with(before, "x/al", sealed("al", s.Private, nonce(1), y), "m/al/1", "gone"))
	got, e, errno = vault.Save(d, s, index.New(), nonce(1))
	if errno != api.OK || !reflect.DeepEqual(got.Index, index.New()) {
		t.Errorf("Save of an empty index = %d", errno)
	}
	expectObjects(t, "Save", e, with(before, "x/al", sealed("al", s.Private, nonce(1), index.New()), "m/al/1", "gone", "m/al/2", "gone", "m/al/3", "gone"))
	if !equal(d, apply(t, d)) || !reflect.DeepEqual(s.Index, x) {
		t.Error("Save changes its arguments")
	}
}

func TestP16_4SaveErrors(t *testing.T) {
	d, s := session(t, index.New())
	full := d
	for i := range 22 {
		full = apply(t, full, put(fmt.Sprint("s", i), ""))
	}
	for _, c := range []struct {
		what  string
		d     disk.Disk
		x     index.Index
		nonce string
		want  api.Errno
	}{
		{"no nonce", d, index.New(), "", api.ErrArg}, {"a long nonce", full, index.New(), nonce(1) + "x", api.ErrArg}, {"a wrong index", d, index.Index{}, nonce(1), api.ErrArg},
		{"a full disk", full, index.New(), nonce(1), api.ErrFull}, {"no disk", disk.Disk{}, index.New(), nonce(1), api.ErrArg},
	} {
		if got, e, errno := vault.Save(c.d, s, c.x, c.nonce); errno != c.want || !noSession(got) || !none(e) {
			t.Errorf("%s: Save = %d, want %d", c.what, errno, c.want)
		}
	}
}

func TestP16_4Place(t *testing.T) {
	d, s := waiting(t, 5, 200)
	s.Index, _ = index.Create(s.Index, "box")
	s.Index.Boxes[1].Next = 7
	before := objects(d)
	got, e, uid, errno := vault.Place(d, s, "box", 200, 17, nonce(1))
	want, _, _ := index.Append(s.Index, "box", 200, 200, 17)
	if errno != api.OK || uid != 7 || !reflect.DeepEqual(got.Index, want) || got.Private != s.Private || got.User != "al" {
		t.Errorf("Place = %v, %d, %d", got, uid, errno)
	}
	expectObjects(t, "Place", e, with(before, "x/al", sealed("al", s.Private, nonce(1), want), "q/al/200", "gone"))
}

func TestP16_4PlaceErrors(t *testing.T) {
	d, s := waiting(t, 5)
	broken := apply(t, d, put("m/al/5", "x"))
	full := d
	for i := range 20 {
		full = apply(t, full, put(fmt.Sprint("s", i), ""))
	}
	crowded := s
	crowded.Index = manyMails(30)
	unset := s
	unset.Index = index.Index{}
	for _, c := range []struct {
		what          string
		d             disk.Disk
		s             vault.Session
		box           string
		number, flags int
		nonce         string
		want          api.Errno
	}{
		{"no nonce", d, s, "INBOX", 5, 0, "", api.ErrArg}, {"no nonce, no message", d, s, "none", 6, 0, nonce(1)[1:], api.ErrArg},
		{"no message", d, s, "none", 6, 64, nonce(1), api.ErrNone}, {"a broken message", broken, s, "none", 5, 64, nonce(1), api.ErrForm},
		{"wrong flags", d, s, "INBOX", 5, 64, nonce(1), api.ErrArg}, {"no mailbox", d, s, "none", 5, 0, nonce(1), api.ErrNone},
		{"30 messages", d, crowded, "INBOX", 5, 0, nonce(1), api.ErrQuota}, {"a wrong index", d, unset, "INBOX", 5, 0, nonce(1), api.ErrArg},
		{"a full disk", full, s, "INBOX", 5, 0, nonce(1), api.ErrFull},
	} {
		if got, e, uid, errno := vault.Place(c.d, c.s, c.box, c.number, c.flags, c.nonce); errno != c.want || uid != 0 || !noSession(got) || !none(e) {
			t.Errorf("%s: Place = %d, %d, want %d", c.what, uid, errno, c.want)
		}
	}
}

func TestP16_4Change(t *testing.T) {
	d, a, _ := made(t, "al")
	f := fresh(7)
	want, _ := ring.Change(a, "pw", "new", f)
	e, errno := vault.Change(d, "al", "pw", "new", f)
	if errno != api.OK {
		t.Errorf("Change = %d", errno)
	}
	expectObjects(t, "Change", e, with(objects(d), "u/al", encoded(want)))
	full := d
	for i := range 22 {
		full = apply(t, full, put(fmt.Sprint("s", i), ""))
	}
	for _, c := range []struct {
		what      string
		d         disk.Disk
		user, old string
		f         ring.Fresh
		want      api.Errno
	}{
		{"no user", d, "bo", "pw", f, api.ErrNone}, {"a broken account", apply(t, d, put("u/al", "x")), "al", "pw", f, api.ErrForm},
		{"a wrong password", d, "al", "no", ring.Fresh{}, api.ErrPass}, {"wrong values", full, "al", "pw", ring.Fresh{}, api.ErrArg}, {"a full disk", full, "al", "pw", f, api.ErrFull},
	} {
		if e, errno := vault.Change(c.d, c.user, c.old, "new", c.f); errno != c.want || !none(e) {
			t.Errorf("%s: Change = %d, want %d", c.what, errno, c.want)
		}
	}
}

func TestP16_4Rotate(t *testing.T) {
	d, a, f := made(t, "al")
	g := fresh(7)
	want, _ := ring.Rotate(a, "pw", g)
	for what, x := range map[string]index.Index{"an index": manyMails(2), "a wrong index": {Given: 7}} {
		s := vault.Session{User: "al", Private: f.Private, Index: x}
		got, e, errno := vault.Rotate(d, s, "pw", g)
		if errno != api.OK || got.User != "al" || got.Private != g.Private || got.Old != f.Private || got.Epoch != 1 || !reflect.DeepEqual(got.Index, x) {
			t.Errorf("%s: Rotate = %v, %d", what, got, errno)
		}
		expectObjects(t, what, e, with(objects(d), "u/al", encoded(want), "x/al", sealed("al", g.Private, g.Nonce, x)))
	}
	s := vault.Session{User: "al", Private: f.Private, Index: index.New()}
	full := d
	for i := range 21 {
		full = apply(t, full, put(fmt.Sprint("s", i), ""))
	}
	other := s
	other.User = "bo"
	for _, c := range []struct {
		what     string
		d        disk.Disk
		s        vault.Session
		password string
		f        ring.Fresh
		want     api.Errno
	}{
		{"no user", d, other, "pw", g, api.ErrNone}, {"a broken account", apply(t, d, put("u/al", "x")), s, "pw", g, api.ErrForm}, {"a wrong password", d, s, "no", ring.Fresh{}, api.ErrPass},
		{"in a rotation", apply(t, d, put("u/al", encoded(want))), s, "pw", ring.Fresh{}, api.ErrThere}, {"wrong values", d, s, "pw", ring.Fresh{}, api.ErrArg}, {"a full disk", full, s, "pw", g, api.ErrFull},
	} {
		if got, e, errno := vault.Rotate(c.d, c.s, c.password, c.f); errno != c.want || !noSession(got) || !none(e) {
			t.Errorf("%s: Rotate = %d, want %d", c.what, errno, c.want)
		}
	}
}

func TestP16_5Step(t *testing.T) {
	d, a, f := made(t, "al")
	g := fresh(7)
	r, _ := ring.Rotate(a, "pw", g)
	d = apply(t, d, put("u/al", encoded(r)), put("m/al/2", mail(1, g.Private, once(2), "new")), put("m/al/1", ""))
	d = apply(t, d, put("m/al/10", mail(0, f.Private, once(10), "ten")), put("m/al/9", mail(0, f.Private, once(9), "nine")))
	d = apply(t, d, put("m/al/3", mail(0, g.Private, once(3), "not by Old")), put("m/bo/1", mail(0, f.Private, once(9), "another's")))
	s := vault.Session{User: "al", Private: g.Private, Old: f.Private, Epoch: 1, Index: index.New()}
	want := objects(d)
	for i, step := range []struct{ name, text string }{{"m/al/9", "nine"}, {"m/al/10", "ten"}} {
		got, e, done, errno := vault.Step(d, s, once(20+i))
		if errno != api.OK || done || !reflect.DeepEqual(got, s) {
			t.Errorf("Step %d = %v, %v, %d", i, got, done, errno)
		}
		want = with(want, step.name, mail(1, g.Private, once(20+i), step.text))
		expectObjects(t, "Step", e, want)
		d = e
	}
	got, e, done, errno := vault.Step(d, s, "")
	s.Old = ""
	if errno != api.OK || !done || !reflect.DeepEqual(got, s) {
		t.Errorf("the last Step = %v, %v, %d", got, done, errno)
	}
	expectObjects(t, "the last Step", e, with(want, "u/al", encoded(ring.Finish(r))))
	if got, e, done, errno := vault.Step(e, s, once(1)); errno != api.ErrNone || done || !noSession(got) || !none(e) {
		t.Errorf("Step without an old key = %d", errno)
	}
}

func TestP16_5StepErrors(t *testing.T) {
	d, a, f := made(t, "al")
	g := fresh(7)
	r, _ := ring.Rotate(a, "pw", g)
	d = apply(t, d, put("u/al", encoded(r)))
	one := apply(t, d, put("m/al/1", mail(0, f.Private, once(1), "text")))
	s := vault.Session{User: "al", Private: g.Private, Old: f.Private, Epoch: 1, Index: index.New()}
	short := s
	short.Private = g.Private[1:]
	fill := func(d disk.Disk, n int) disk.Disk {
		for i := range n {
			d = apply(t, d, put(fmt.Sprint("s", i), ""))
		}
		return d
	}
	for _, c := range []struct {
		what string
		d    disk.Disk
		s    vault.Session
		once string
		want api.Errno
	}{
		{"no scalar", one, s, "", api.ErrArg}, {"a short key", one, short, once(1), api.ErrArg}, {"a full disk", fill(one, 21), s, once(1), api.ErrFull},
		{"no account", apply(t, d, gone("u/al")), s, once(1), api.ErrNone}, {"a broken account", apply(t, d, put("u/al", "x")), s, once(1), api.ErrForm},
		{"a full disk at the end", fill(d, 22), s, once(1), api.ErrFull},
	} {
		if got, e, done, errno := vault.Step(c.d, c.s, c.once); errno != c.want || done || !noSession(got) || !none(e) {
			t.Errorf("%s: Step = %v, %d, want %d", c.what, done, errno, c.want)
		}
	}
	epoch := s
	epoch.Epoch = 257
	two := apply(t, d, put("m/al/1", mail(1, f.Private, once(1), "text")))
	if _, _, done, errno := vault.Step(two, epoch, once(1)); errno != api.OK || !done {
		t.Errorf("Step in epoch 257 = %v, %d", done, errno)
	}
}

// check asserts that all texts of INBOX are as they were delivered.
func checkTexts(t *testing.T, what string, d disk.Disk, s vault.Session, texts []string) {
	t.Helper()
	mails := s.Index.Boxes[0].Mails
	if len(mails) != len(texts) {
		t.Fatalf("%s: %d messages, want %d", what, len(mails), len(texts))
	}
	for i, m := range mails {
		if text, errno := vault.Text(d, s, m.Object); errno != api.OK || text != texts[i] || m.Size != len(texts[i]) {
			t.Errorf("%s: message %d = %d bytes, %d", what, i, len(text), errno)
		}
	}
}

func TestP16_6Life(t *testing.T) {
	d, errno := vault.Add(store.Format(), "al", "pw0", fresh(1))
	if errno != api.OK {
		t.Fatal(errno)
	}
	var texts []string
	password := "pw0"
	for round := range 3 {
		for i := range 2 {
			text := bytesOf(100*round+20*i, round)
			if d, _, errno = vault.Deliver(d, "al", once(round*10+i), text); errno != api.OK {
				t.Fatalf("Deliver: %d", errno)
			}
			texts = append(texts, text)
		}
		s, e, errno := vault.Login(d, "al", password, nonce(round))
		if errno != api.OK {
			t.Fatalf("Login: %d", errno)
		}
		checkTexts(t, "after Login", e, s, texts)
		next := fmt.Sprint("pw", round+1)
		if e, errno = vault.Change(e, "al", password, next, fresh(10+round)); errno != api.OK {
			t.Fatalf("Change: %d", errno)
		}
		if _, _, errno := vault.Login(e, "al", password, nonce(1)); errno != api.ErrPass {
			t.Errorf("the old password: Login = %d", errno)
		}
		password = next
		g := fresh(20 + round)
		if s, e, errno = vault.Rotate(e, s, password, g); errno != api.OK {
			t.Fatalf("Rotate: %d", errno)
		}
		checkTexts(t, "after Rotate", e, s, texts)
		done := false
		for i := range len(texts) + 1 {
			if done {
				t.Errorf("done after %d steps", i)
			}
			if s, e, done, errno = vault.Step(e, s, once(100+i)); errno != api.OK {
				t.Fatalf("Step: %d", errno)
			}
			checkTexts(t, "after a Step", e, s, texts)
		}
		alone := vault.Session{User: "al", Private: g.Private, Epoch: s.Epoch, Index: s.Index}
		if !done || s.Old != "" {
			t.Error("the rotation is not done")
		}
		checkTexts(t, "with the new key alone", e, alone, texts)
		d = e
	}
}

// P3: after any part of what an Apply does, a crash and a repair, all of it was done or nothing.
func TestP16_6Crash(t *testing.T) {
	d, _ := waiting(t, 3, 140)
	_, after, _ := vault.Login(d, "al", "pw", nonce(1))
	changes, _, _ := vault.Delivery(d, "al", once(9), "one more")
	for what, l := range map[string][]store.Change{
		"Login":    {put("x/al", objects(after)["x/al"]), gone("q/al/3"), gone("q/al/140")},
		"Delivery": changes,
	} {
		writes, _ := store.Writes(d, l)
		plan, _ := wal.Plan(d, writes)
		done, _ := store.Apply(d, l)
		for most := range len(plan) + 1 {
			for _, keep := range [][]int{nil, {0}, {1, 3, 5, 7, 9, 11}, {0, 2, 4, 6, 8, 10}} {
				got := wal.Recover(disk.Crash(wal.Run(d, plan, most), keep))
				if m := objects(got); !reflect.DeepEqual(m, objects(d)) && !reflect.DeepEqual(m, objects(done)) {
					t.Errorf("%s: after %d operations: neither", what, most)
				}
				if _, _, errno := vault.Login(got, "al", "pw", nonce(4)); errno != api.OK {
					t.Errorf("%s: after %d operations: Login = %d", what, most, errno)
				}
			}
		}
	}
}
