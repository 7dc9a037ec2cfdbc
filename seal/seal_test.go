package seal_test

import (
	"math"
	"strings"
	"testing"

	"mailsack/aead"
	"mailsack/api"
	"mailsack/ladder"
	"mailsack/mac"
	"mailsack/seal"
)

func bytesOf(n int, with int) string {
	out := make([]byte, n)
	for i := range out {
		out[i] = byte(i*i*7 + i*19 + with*with + with)
	}
	return string(out)
}

func wantClass(n int) int {
	switch {
	case n < 0 || n > 700:
		return 0
	case n+2 <= 128:
		return 128
	case n+2 <= 256:
		return 256
	case n+2 <= 512:
		return 512
	}
	return 704
}

func TestP8_1Class(t *testing.T) {
	for n := -5; n < 800; n++ {
		if got := seal.Class(n); got != wantClass(n) {
			t.Errorf("Class(%d) = %d, want %d", n, got, wantClass(n))
		}
	}
	for _, n := range []int{math.MinInt, math.MaxInt, math.MaxInt - 1, -128, 65536} {
		if got := seal.Class(n); got != 0 {
			t.Errorf("Class(%d) = %d", n, got)
		}
	}
}

func wantPad(s string) string {
	n := len(s)
	return string([]byte{byte(n), byte(n >> 8)}) + s + strings.Repeat("\x00", wantClass(n)-2-n)
}

func TestP8_1Pad(t *testing.T) {
	for n := range 701 {
		s := bytesOf(n, 1)
		got, errno := seal.Pad(s)
		if errno != api.OK || got != wantPad(s) {
			t.Errorf("Pad of %d bytes = %x, %d", n, got, errno)
		}
		if back, errno := seal.Unpad(wantPad(s)); errno != api.OK || back != s {
			t.Errorf("Unpad of %d bytes, padded, = %x, %d", n, back, errno)
		}
	}
	for _, n := range []int{701, 702, 703, 1000, 65536, 65540} {
		if got, errno := seal.Pad(bytesOf(n, 1)); errno != api.ErrLong || got != "" {
			t.Errorf("Pad of %d bytes = %d bytes, %d", n, len(got), errno)
		}
	}
}

func TestP8_1Unpad(t *testing.T) {
	zeros := func(n int) string { return strings.Repeat("\x00", n) }
	for what, s := range map[string]string{
		"empty":                     "",
		"one byte":                  "\x00",
		"two bytes":                 "\x00\x00",
		"one byte too few":          wantPad("abc")[:127],
		"one byte too many":         wantPad("abc") + "\x00",
		"a greater class":           "\x03\x00abc" + zeros(256-5),
		"the greatest class":        "\x03\x00abc" + zeros(704-5),
		"a smaller class":           "\x7f\x00" + zeros(126),
		"no class":                  "\x03\x00abc" + zeros(200-5),
		"a byte behind the text":    "\x03\x00abc\x01" + zeros(122),
		"a last byte":               "\x03\x00abc" + zeros(122) + "\x01",
		"a last byte of a space":    "\x03\x00abc" + zeros(122) + " ",
		"length 701":                "\xbd\x02" + zeros(702),
		"length 702":                "\xbe\x02" + zeros(702),
		"length 65535":              "\xff\xff" + zeros(702),
		"most significant first":    "\x00\x03abc" + zeros(123),
		"127 bytes in the class of": "\x7f\x00" + strings.Repeat("x", 126),
	} {
		if got, errno := seal.Unpad(s); errno != api.ErrForm || got != "" {
			t.Errorf("%s: Unpad = %q, %d", what, got, errno)
		}
	}
	// The text may itself end with zero bytes.
	if got, errno := seal.Unpad("\x05\x00abc" + zeros(123)); errno != api.OK || got != "abc\x00\x00" {
		t.Errorf("Unpad of a text that ends with zeros = %q, %d", got, errno)
	}
}

func wantBox(public, once, s string) string {
	sender, _ := ladder.Public(once)
	shared, _ := ladder.Point(once, public)
	drawn, _ := mac.Draw(shared, sender+public, "mail", 44)
	sealed, _ := aead.Seal(drawn[:32], drawn[32:], "", wantPad(s))
	return sender + sealed
}

func TestP8_2Box(t *testing.T) {
	for i, n := range []int{0, 1, 50, 126, 127, 254, 255, 510, 511, 699, 700} {
		private, once, s := bytesOf(32, i), bytesOf(32, i+50), bytesOf(n, i)
		public, _ := ladder.Public(private)
		box, errno := seal.Box(public, once, s)
		if errno != api.OK || box != wantBox(public, once, s) {
			t.Errorf("Box of %d bytes = %x, %d", n, box, errno)
		}
		// P8.3: the box is opened with the scalar, and its length tells the class alone.
		if len(box) != 32+wantClass(n)+16 {
			t.Errorf("Box of %d bytes has %d bytes", n, len(box))
		}
		if got, errno := seal.Open(private, wantBox(public, once, s)); errno != api.OK || got != s {
			t.Errorf("Open of %d bytes = %x, %d", n, got, errno)
		}
	}
}

func TestP8_2BoxErrors(t *testing.T) {
	key := bytesOf(32, 1)
	for _, c := range []struct {
		public, once string
		n            int
		want         api.Errno
	}{
		{"", key, 1, api.ErrArg}, {key[:31], key, 1, api.ErrArg}, {key + "x", key, 1, api.ErrArg},
		{key, "", 1, api.ErrArg}, {key, key[:31], 1, api.ErrArg}, {key, key + "x", 1, api.ErrArg},
		{key[:31], key, 701, api.ErrArg}, {key, key[:31], 701, api.ErrArg}, {key, key, 701, api.ErrLong},
	} {
		if got, errno := seal.Box(c.public, c.once, bytesOf(c.n, 1)); errno != c.want || got != "" {
			t.Errorf("Box with %d and %d bytes, of %d = %x, %d", len(c.public), len(c.once), c.n, got, errno)
		}
	}
}

// sealedTo returns a box whose padded string is given, right or wrong.
func sealedTo(private, once, padded string) string {
	public, _ := ladder.Public(private)
	sender, _ := ladder.Public(once)
	shared, _ := ladder.Point(once, public)
	drawn, _ := mac.Draw(shared, sender+public, "mail", 44)
	sealed, _ := aead.Seal(drawn[:32], drawn[32:], "", padded)
	return sender + sealed
}

func TestP8_2OpenErrors(t *testing.T) {
	private, once := bytesOf(32, 1), bytesOf(32, 2)
	public, _ := ladder.Public(private)
	box := wantBox(public, once, "text")
	changed := func(i int) string {
		b := []byte(box)
		b[i] ^= 1
		return string(b)
	}
	for _, c := range []struct {
		what, private, box string
		want               api.Errno
	}{
		{"no key", "", box, api.ErrArg},
		{"a short key", private[:31], box, api.ErrArg},
		{"a long key", private + "x", "", api.ErrArg},
		{"a short key and box", private[:31], box[:31], api.ErrArg},
		{"an empty box", private, "", api.ErrForm},
		{"31 bytes", private, box[:31], api.ErrForm},
		{"32 bytes", private, box[:32], api.ErrSum},
		{"47 bytes", private, box[:47], api.ErrSum},
		{"cut", private, box[:len(box)-1], api.ErrSum},
		{"longer", private, box + "\x00", api.ErrSum},
		{"another scalar", bytesOf(32, 9), box, api.ErrSum},
		{"the sender changed", private, changed(0), api.ErrSum},
		{"the text changed", private, changed(40), api.ErrSum},
		{"the tag changed", private, changed(len(box) - 1), api.ErrSum},
		{"not padded", private, sealedTo(private, once, "text"), api.ErrForm},
		{"nothing padded", private, sealedTo(private, once, ""), api.ErrForm},
		{"padded to a greater class", private, sealedTo(private, once, "\x00\x00"+strings.Repeat("\x00", 254)), api.ErrForm},
	} {
		if got, errno := seal.Open(c.private, c.box); errno != c.want || got != "" {
			t.Errorf("%s: Open = %q, %d, want %d", c.what, got, errno, c.want)
		}
	}
}

// The scalars are taken as bytes: the salt contains the public key as it was passed, with its highest bit.
func TestP8_2KeyAsPassed(t *testing.T) {
	private, once := bytesOf(32, 4), bytesOf(32, 5)
	public, _ := ladder.Public(private)
	high := public[:31] + string([]byte{public[31] | 0x80})
	if box, errno := seal.Box(high, once, "text"); errno != api.OK || box != wantBox(high, once, "text") {
		t.Errorf("Box to a key with its highest bit = %x, %d", box, errno)
	} else if _, errno := seal.Open(private, box); errno != api.ErrSum {
		t.Errorf("Open of it = %d", errno)
	}
}

func TestP8_3Classes(t *testing.T) {
	private := bytesOf(32, 7)
	public, _ := ladder.Public(private)
	for n := 0; n <= 700; n += 25 {
		box, errno := seal.Box(public, bytesOf(32, n+1), bytesOf(n, n))
		if errno != api.OK || len(box) != 48+wantClass(n) {
			t.Errorf("Box of %d bytes: %d bytes, %d", n, len(box), errno)
		}
		if got, errno := seal.Open(private, box); errno != api.OK || got != bytesOf(n, n) {
			t.Errorf("Open of %d bytes: %d", n, errno)
		}
	}
}
