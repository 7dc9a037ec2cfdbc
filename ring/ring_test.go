package ring_test

import (
	"fmt"
	"math"
	"slices"
	"strings"
	"testing"

	"mailsack/aead"
	"mailsack/api"
	"mailsack/ladder"
	"mailsack/mac"
	"mailsack/ring"
)

func bytesOf(n int, with int) string {
	out := make([]byte, n)
	for i := range out {
		out[i] = byte(i*i*3 + i*37 + with*with + with*5)
	}
	return string(out)
}

func fresh(with int) ring.Fresh {
	return ring.Fresh{Salt: bytesOf(16, with), Nonce: bytesOf(12, with+1), Private: bytesOf(32, with+2), Rounds: 1 + with%3}
}

func public(private string) string {
	p, _ := ladder.Public(private)
	return p
}

func wrapped(user, password, private string, f ring.Fresh) string {
	key, _ := mac.Password(password, f.Salt, f.Rounds)
	s, _ := aead.Seal(key, f.Nonce, user+public(private), private)
	return s
}

func oldOf(private, old, nonce string) string {
	key, _ := mac.Draw(private, "", "old", 32)
	s, _ := aead.Seal(key, nonce, public(private), old)
	return s
}

// account returns what Make should return.
func account(user, password string, f ring.Fresh) ring.Account {
	return ring.Account{User: user, Salt: f.Salt, Rounds: f.Rounds, Public: public(f.Private), Nonce: f.Nonce,
		Wrapped: wrapped(user, password, f.Private, f)}
}

// rotated returns what Rotate should return for a new account.
func rotated(user, password string, f, g ring.Fresh) ring.Account {
	a := account(user, password, g)
	a.Epoch = 1
	a.Old = oldOf(g.Private, f.Private, g.Nonce)
	return a
}

func TestP13_1RightUser(t *testing.T) {
	for _, s := range []string{"a", "z", "0", "9", "al", "abcdefgh", "12345678", "a1b2"} {
		if !ring.RightUser(s) {
			t.Errorf("%q is no user name", s)
		}
	}
	for _, s := range []string{"", "abcdefghi", "Al", "aZ", "a b", "a/", "a:", "a`", "a{", "é", "a\x00", "-", "a.b", " ", "@"} {
		if ring.RightUser(s) {
			t.Errorf("%q is a user name", s)
		}
	}
	for c := range 256 {
		want := c >= 'a' && c <= 'z' || c >= '0' && c <= '9'
		if ring.RightUser("x"+string([]byte{byte(c)})) != want {
			t.Errorf("byte %d: %v", c, !want)
		}
	}
}

func wrongAccounts() map[string]ring.Account {
	good := account("al", "pw", fresh(1))
	m := map[string]ring.Account{"zero": {}}
	add := func(what string, f func(a *ring.Account)) {
		a := good
		f(&a)
		m[what] = a
	}
	add("no user", func(a *ring.Account) { a.User = "" })
	add("a user in capitals", func(a *ring.Account) { a.User = "AL" })
	add("a long user", func(a *ring.Account) { a.User = "abcdefghi" })
	add("a short salt", func(a *ring.Account) { a.Salt = a.Salt[1:] })
	add("a long salt", func(a *ring.Account) { a.Salt += "x" })
	add("no rounds", func(a *ring.Account) { a.Rounds = 0 })
	add("negative rounds", func(a *ring.Account) { a.Rounds = -1 })
	add("65 rounds", func(a *ring.Account) { a.Rounds = 65 })
	add("257 rounds", func(a *ring.Account) { a.Rounds = 257 })
	add("epoch 2", func(a *ring.Account) { a.Epoch = 2 })
	add("epoch -1", func(a *ring.Account) { a.Epoch = -1 })
	add("epoch 256", func(a *ring.Account) { a.Epoch = 256 })
	add("a short public key", func(a *ring.Account) { a.Public = a.Public[1:] })
	add("a long public key", func(a *ring.Account) { a.Public += "x" })
	add("a short nonce", func(a *ring.Account) { a.Nonce = a.Nonce[1:] })
	add("a long nonce", func(a *ring.Account) { a.Nonce += "x" })
	add("no wrapped key", func(a *ring.Account) { a.Wrapped = "" })
	add("a short wrapped key", func(a *ring.Account) { a.Wrapped = a.Wrapped[1:] })
	add("a long wrapped key", func(a *ring.Account) { a.Wrapped += "x" })
	add("a short old key", func(a *ring.Account) { a.Old = bytesOf(47, 1) })
	add("a long old key", func(a *ring.Account) { a.Old = bytesOf(49, 1) })
	add("an old key of one byte", func(a *ring.Account) { a.Old = "x" })
	return m
}

func TestP13_1Right(t *testing.T) {
	for what, a := range wrongAccounts() {
		if ring.Right(a) {
			t.Errorf("%s: valid", what)
		}
		if s, errno := ring.Put(a); errno != api.ErrArg || s != "" {
			t.Errorf("%s: Put = %x, %d", what, s, errno)
		}
		if l, errno := ring.Unlock(a, "pw"); errno != api.ErrArg || len(l) != 0 {
			t.Errorf("%s: Unlock = %d", what, errno)
		}
		if b, errno := ring.Change(a, "pw", "new", ring.Fresh{}); errno != api.ErrArg || b != (ring.Account{}) {
			t.Errorf("%s: Change = %d", what, errno)
		}
		if b, errno := ring.Rotate(a, "pw", fresh(2)); errno != api.ErrArg || b != (ring.Account{}) {
			t.Errorf("%s: Rotate = %d", what, errno)
		}
	}
	for _, rounds := range []int{1, 2, 64} {
		a := account("abcdefgh", "pw", fresh(1))
		a.Rounds = rounds
		if !ring.Right(a) {
			t.Errorf("%d rounds: not valid", rounds)
		}
	}
}

func encoding(a ring.Account) string {
	return string([]byte{byte(len(a.User))}) + a.User + a.Salt + string([]byte{byte(a.Rounds), byte(a.Epoch)}) +
		a.Public + a.Nonce + a.Wrapped + a.Old
}

func TestP13_1PutTake(t *testing.T) {
	for i, user := range []string{"a", "al", "abcdefgh"} {
		a := account(user, "pw", fresh(i))
		a.Rounds = []int{1, 33, 64}[i]
		for _, b := range []ring.Account{a, rotated(user, "pw", fresh(i), fresh(i+5))} {
			s, errno := ring.Put(b)
			if errno != api.OK || s != encoding(b) {
				t.Errorf("Put = %x, %d", s, errno)
			}
			if got, errno := ring.Take(encoding(b)); errno != api.OK || got != b {
				t.Errorf("Take = %v, %d", got, errno)
			}
		}
	}
}

func TestP13_1TakeErrors(t *testing.T) {
	good := encoding(account("al", "pw", fresh(1)))
	old := encoding(rotated("al", "pw", fresh(1), fresh(2)))
	var wrong []string
	for n := range len(good) {
		wrong = append(wrong, good[:n])
	}
	for n := len(good) + 1; n < len(old); n++ {
		wrong = append(wrong, old[:n])
	}
	wrong = append(wrong, old+"x", good+"x", strings.Repeat("\xff", 200), strings.Repeat("\x00", 200))
	for _, a := range wrongAccounts() {
		if a.Rounds != 257 && a.Epoch != 256 {
			wrong = append(wrong, encoding(a))
		}
	}
	for _, s := range wrong {
		if got, errno := ring.Take(s); errno != api.ErrForm || got != (ring.Account{}) {
			t.Errorf("Take(%x) = %v, %d", s, got, errno)
		}
	}
}

func TestP13_2Make(t *testing.T) {
	for i, password := range []string{"", "pw", "a longer password, with spaces", bytesOf(100, 3)} {
		f := fresh(i)
		f.Rounds = []int{1, 2, 63, 64}[i]
		got, errno := ring.Make("al", password, f)
		if errno != api.OK || got != account("al", password, f) {
			t.Errorf("Make with %q = %v, %d", password, got, errno)
		}
		keys, errno := ring.Unlock(account("al", password, f), password)
		if errno != api.OK || !slices.Equal(keys, []string{f.Private}) {
			t.Errorf("Unlock with %q = %x, %d", password, keys, errno)
		}
	}
}

func wrongFresh(private bool) map[string]ring.Fresh {
	m := map[string]ring.Fresh{}
	add := func(what string, f func(f *ring.Fresh)) {
		g := fresh(3)
		f(&g)
		m[what] = g
	}
	add("no salt", func(f *ring.Fresh) { f.Salt = "" })
	add("a short salt", func(f *ring.Fresh) { f.Salt = f.Salt[1:] })
	add("a long salt", func(f *ring.Fresh) { f.Salt += "x" })
	add("a short nonce", func(f *ring.Fresh) { f.Nonce = f.Nonce[1:] })
	add("a long nonce", func(f *ring.Fresh) { f.Nonce += "x" })
	add("no rounds", func(f *ring.Fresh) { f.Rounds = 0 })
	add("65 rounds", func(f *ring.Fresh) { f.Rounds = 65 })
	add("few rounds", func(f *ring.Fresh) { f.Rounds = math.MinInt })
	add("many rounds", func(f *ring.Fresh) { f.Rounds = math.MaxInt })
	if private {
		add("no private key", func(f *ring.Fresh) { f.Private = "" })
		add("a short private key", func(f *ring.Fresh) { f.Private = f.Private[1:] })
		add("a long private key", func(f *ring.Fresh) { f.Private += "x" })
	}
	return m
}

func TestP13_2MakeErrors(t *testing.T) {
	for what, f := range wrongFresh(true) {
		if a, errno := ring.Make("al", "pw", f); errno != api.ErrArg || a != (ring.Account{}) {
			t.Errorf("%s: Make = %v, %d", what, a, errno)
		}
	}
	for _, user := range []string{"", "Al", "abcdefghi", "a b"} {
		if a, errno := ring.Make(user, "pw", fresh(1)); errno != api.ErrArg || a != (ring.Account{}) {
			t.Errorf("Make of %q = %v, %d", user, a, errno)
		}
	}
}

func TestP13_2Unlock(t *testing.T) {
	f, g := fresh(1), fresh(2)
	a := rotated("al", "pw", f, g)
	keys, errno := ring.Unlock(a, "pw")
	if errno != api.OK || !slices.Equal(keys, []string{g.Private, f.Private}) {
		t.Errorf("Unlock with an old key = %x, %d", keys, errno)
	}
	refused := func(what string, want api.Errno, change func(a *ring.Account)) {
		t.Helper()
		b := a
		change(&b)
		if keys, errno := ring.Unlock(b, "pw"); errno != want || len(keys) != 0 {
			t.Errorf("%s: Unlock = %x, %d", what, keys, errno)
		}
	}
	for _, password := range []string{"", "pW", "pw ", "pw\x00x", "p"} {
		if keys, errno := ring.Unlock(a, password); errno != api.ErrPass || len(keys) != 0 {
			t.Errorf("Unlock with %q = %x, %d", password, keys, errno)
		}
	}
	flip := func(s string, i int) string {
		b := []byte(s)
		b[i] ^= 1
		return string(b)
	}
	refused("another user", api.ErrPass, func(a *ring.Account) { a.User = "bo" })
	refused("another salt", api.ErrPass, func(a *ring.Account) { a.Salt = flip(a.Salt, 3) })
	refused("another number of rounds", api.ErrPass, func(a *ring.Account) { a.Rounds++ })
	refused("another public key", api.ErrPass, func(a *ring.Account) { a.Public = flip(a.Public, 3) })
	refused("another nonce", api.ErrPass, func(a *ring.Account) { a.Nonce = flip(a.Nonce, 3) })
	refused("another wrapped key", api.ErrPass, func(a *ring.Account) { a.Wrapped = flip(a.Wrapped, 3) })
	refused("another tag", api.ErrPass, func(a *ring.Account) { a.Wrapped = flip(a.Wrapped, 47) })
	refused("another old key", api.ErrForm, func(a *ring.Account) { a.Old = flip(a.Old, 3) })
	refused("an old key of zeros", api.ErrForm, func(a *ring.Account) { a.Old = strings.Repeat("\x00", 48) })
	refused("a wrong key and a wrong old key", api.ErrPass, func(a *ring.Account) { a.Old, a.Rounds = flip(a.Old, 3), 50 })
}

// A key that is wrapped right, but is not that of Public.
func TestP13_2UnlockOfAnotherKey(t *testing.T) {
	f := fresh(1)
	a := account("al", "pw", f)
	key, _ := mac.Password("pw", f.Salt, f.Rounds)
	a.Wrapped, _ = aead.Seal(key, f.Nonce, "al"+a.Public, bytesOf(32, 77))
	if keys, errno := ring.Unlock(a, "pw"); errno != api.ErrPass || len(keys) != 0 {
		t.Errorf("Unlock = %x, %d", keys, errno)
	}
	a.Old = bytesOf(48, 1)
	if keys, errno := ring.Unlock(a, "pw"); errno != api.ErrPass || len(keys) != 0 {
		t.Errorf("Unlock with an old key = %x, %d", keys, errno)
	}
}

func TestP13_3Change(t *testing.T) {
	f, g, h := fresh(1), fresh(2), fresh(3)
	want := account("al", "pw", f)
	want.Salt, want.Nonce, want.Rounds = h.Salt, h.Nonce, h.Rounds
	want.Wrapped = wrapped("al", "new", f.Private, h)
	for _, private := range []string{h.Private, "", "short"} {
		k := h
		k.Private = private
		got, errno := ring.Change(account("al", "pw", f), "pw", "new", k)
		if errno != api.OK || got != want {
			t.Errorf("Change = %v, %d", got, errno)
		}
	}
	got, errno := ring.Change(rotated("al", "pw", f, g), "pw", "new", h)
	want = rotated("al", "pw", f, g)
	want.Salt, want.Nonce, want.Rounds = h.Salt, h.Nonce, h.Rounds
	want.Wrapped = wrapped("al", "new", g.Private, h)
	want.Old = oldOf(g.Private, f.Private, h.Nonce)
	if errno != api.OK || got != want {
		t.Errorf("Change with an old key = %v, %d", got, errno)
	}
}

func TestP13_3ChangeErrors(t *testing.T) {
	a := rotated("al", "pw", fresh(1), fresh(2))
	for what, f := range wrongFresh(false) {
		if b, errno := ring.Change(a, "pw", "new", f); errno != api.ErrArg || b != (ring.Account{}) {
			t.Errorf("%s: Change = %v, %d", what, b, errno)
		}
		if b, errno := ring.Change(a, "no", "new", f); errno != api.ErrPass || b != (ring.Account{}) {
			t.Errorf("%s: Change with a wrong password = %v, %d", what, b, errno)
		}
	}
	b := a
	b.Old = bytesOf(48, 1)
	if c, errno := ring.Change(b, "pw", "new", ring.Fresh{}); errno != api.ErrForm || c != (ring.Account{}) {
		t.Errorf("Change with a wrong old key = %v, %d", c, errno)
	}
}

func TestP13_3Rotate(t *testing.T) {
	f, g, h := fresh(1), fresh(2), fresh(3)
	got, errno := ring.Rotate(account("al", "pw", f), "pw", g)
	if errno != api.OK || got != rotated("al", "pw", f, g) {
		t.Errorf("Rotate = %v, %d", got, errno)
	}
	done := ring.Finish(rotated("al", "pw", f, g))
	got, errno = ring.Rotate(done, "pw", h)
	want := rotated("al", "pw", g, h)
	want.Epoch = 0
	if errno != api.OK || got != want {
		t.Errorf("Rotate again = %v, %d", got, errno)
	}
}

func TestP13_3RotateErrors(t *testing.T) {
	a, r := account("al", "pw", fresh(1)), rotated("al", "pw", fresh(1), fresh(2))
	for what, f := range wrongFresh(true) {
		for _, c := range []struct {
			a        ring.Account
			password string
			want     api.Errno
		}{{a, "pw", api.ErrArg}, {a, "no", api.ErrPass}, {r, "pw", api.ErrThere}, {r, "no", api.ErrPass}} {
			if b, errno := ring.Rotate(c.a, c.password, f); errno != c.want || b != (ring.Account{}) {
				t.Errorf("%s: Rotate = %v, %d, want %d", what, b, errno, c.want)
			}
		}
	}
	if b, errno := ring.Rotate(r, "pw", fresh(4)); errno != api.ErrThere || b != (ring.Account{}) {
		t.Errorf("Rotate with an old key = %v, %d", b, errno)
	}
	r.Old = bytesOf(48, 1)
	if b, errno := ring.Rotate(r, "pw", fresh(4)); errno != api.ErrForm || b != (ring.Account{}) {
		t.Errorf("Rotate with a wrong old key = %v, %d", b, errno)
	}
}

func TestP13_3Finish(t *testing.T) {
	a := rotated("al", "pw", fresh(1), fresh(2))
	want := a
	want.Old = ""
	if got := ring.Finish(a); got != want {
		t.Errorf("Finish = %v", got)
	}
	if got := ring.Finish(want); got != want {
		t.Errorf("Finish again = %v", got)
	}
	if got := ring.Finish(ring.Account{User: "X", Old: "y"}); got != (ring.Account{User: "X"}) {
		t.Errorf("Finish of a wrong account = %v", got)
	}
}

func TestP13_4Life(t *testing.T) {
	a, errno := ring.Make("al", "pw0", fresh(0))
	if errno != api.OK {
		t.Fatal(errno)
	}
	private := fresh(0).Private
	for i := range 6 {
		password, next := fmt.Sprint("pw", i), fmt.Sprint("pw", i+1)
		if a, errno = ring.Change(a, password, next, fresh(10*i+1)); errno != api.OK {
			t.Fatalf("Change %d: %d", i, errno)
		}
		if _, errno := ring.Unlock(a, password); errno != api.ErrPass {
			t.Errorf("the old password still unlocks: %d", errno)
		}
		if keys, errno := ring.Unlock(a, next); errno != api.OK || !slices.Equal(keys, []string{private}) {
			t.Errorf("after Change %d: %x, %d", i, keys, errno)
		}
		f := fresh(10*i + 5)
		if a, errno = ring.Rotate(a, next, f); errno != api.OK || a.Epoch != (i+1)%2 {
			t.Fatalf("Rotate %d: %d", i, errno)
		}
		if keys, errno := ring.Unlock(a, next); errno != api.OK || !slices.Equal(keys, []string{f.Private, private}) {
			t.Errorf("after Rotate %d: %x, %d", i, keys, errno)
		}
		a, private = ring.Finish(a), f.Private
	}
}
