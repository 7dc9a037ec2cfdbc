package aead_test

import (
	"encoding/hex"
	"strings"
	"testing"

	"mailsack/aead"
	"mailsack/api"
	"mailsack/chacha"
	"mailsack/poly"
)

func bytesOf(n int, with int) string {
	out := make([]byte, n)
	for i := range out {
		out[i] = byte(i*i*3 + i*23 + with)
	}
	return string(out)
}

func unhex(t *testing.T, s string) string {
	t.Helper()
	out, err := hex.DecodeString(s)
	if err != nil {
		t.Fatal(err)
	}
	return string(out)
}

// RFC 8439, section 2.8.2.
func TestP7_1Vector(t *testing.T) {
	key := unhex(t, "808182838485868788898a8b8c8d8e8f909192939495969798999a9b9c9d9e9f")
	nonce, with := unhex(t, "070000004041424344454647"), unhex(t, "50515253c0c1c2c3c4c5c6c7")
	text := "Ladies and Gentlemen of the class of '99: If I could offer you only one tip for the future, sunscreen would be it."
	want := unhex(t, "d31a8d34648e60db7b86afbc53ef7ec2a4aded51296e08fea9e2b5a736ee62d63dbea45e8ca9671282fafb69da92728b1a71de0a9e060b2905d6a5b67ecd3b3692ddbd7f2d778b8c9803aee328091b58fab324e4fad675945585808b4831d7bc3ff4def08e4b7a9de576d26586cec64b61161ae10b594f09e26a7e902ecbd0600691")
	got, errno := aead.Seal(key, nonce, with, text)
	if errno != api.OK || got != want {
		t.Errorf("Seal = %x, %d", got, errno)
	}
	opened, errno := aead.Open(key, nonce, with, want)
	if errno != api.OK || opened != text {
		t.Errorf("Open = %q, %d", opened, errno)
	}
}

// wantBox builds a box as the RFC says, from layers 5 and 6.
func wantBox(key, nonce, with, s string) string {
	text, _ := chacha.Turn(key, nonce, 1, s)
	first, _ := chacha.Block(key, nonce, 0)
	data := ""
	lengths := ""
	for _, part := range []string{with, text} {
		data += part
		for len(data)%16 != 0 {
			data += "\x00"
		}
		n := len(part)
		lengths += string([]byte{byte(n), byte(n >> 8), byte(n >> 16), 0, 0, 0, 0, 0})
	}
	tag, _ := poly.Tag(first[:32], data+lengths)
	return text + tag
}

func TestP7_1Seal(t *testing.T) {
	key, nonce := bytesOf(32, 1), bytesOf(12, 2)
	for _, n := range []int{0, 1, 15, 16, 17, 32, 63, 64, 65, 128, 300, 704, 70000} {
		for _, m := range []int{0, 1, 15, 16, 17, 40, 256, 300} {
			s, with := bytesOf(n, 3), bytesOf(m, 4)
			box, errno := aead.Seal(key, nonce, with, s)
			if errno != api.OK || box != wantBox(key, nonce, with, s) {
				t.Errorf("Seal of %d bytes with %d: %d", n, m, errno)
			}
			// P7.2: what was sealed is opened; sealed again, it is the same box.
			opened, errno := aead.Open(key, nonce, with, box)
			if errno != api.OK || opened != s {
				t.Errorf("Open of %d bytes with %d: %d", n, m, errno)
			}
			if again, _ := aead.Seal(key, nonce, with, opened); again != box {
				t.Errorf("%d bytes with %d, sealed again, differ", n, m)
			}
		}
	}
}

func TestP7_1Lengths(t *testing.T) {
	key, nonce := bytesOf(32, 1), bytesOf(12, 2)
	for _, c := range [][2]string{
		{"", nonce}, {key[:31], nonce}, {key + "x", nonce}, {key, ""}, {key, nonce[:11]}, {key, nonce + "x"}, {"", ""},
	} {
		if box, errno := aead.Seal(c[0], c[1], "with", "text"); errno != api.ErrArg || box != "" {
			t.Errorf("Seal with %d and %d bytes = %x, %d", len(c[0]), len(c[1]), box, errno)
		}
		for _, box := range []string{"", "short", bytesOf(40, 1)} {
			if s, errno := aead.Open(c[0], c[1], "with", box); errno != api.ErrArg || s != "" {
				t.Errorf("Open with %d and %d bytes = %x, %d", len(c[0]), len(c[1]), s, errno)
			}
		}
	}
}

func TestP7_1ShortBoxes(t *testing.T) {
	key, nonce := bytesOf(32, 1), bytesOf(12, 2)
	for n := range 16 {
		if s, errno := aead.Open(key, nonce, "", strings.Repeat("\x00", n)); errno != api.ErrSum || s != "" {
			t.Errorf("Open of %d bytes = %q, %d", n, s, errno)
		}
	}
	box, _ := aead.Seal(key, nonce, "with", "")
	if len(box) != 16 {
		t.Errorf("the empty string sealed has %d bytes", len(box))
	}
	if s, errno := aead.Open(key, nonce, "with", box); errno != api.OK || s != "" {
		t.Errorf("Open of it = %q, %d", s, errno)
	}
}

func TestP7_2Changed(t *testing.T) {
	key, nonce, with, s := bytesOf(32, 1), bytesOf(12, 2), "with", bytesOf(50, 3)
	box, _ := aead.Seal(key, nonce, with, s)
	refused := func(what string, key, nonce, with, box string) {
		t.Helper()
		if s, errno := aead.Open(key, nonce, with, box); errno != api.ErrSum || s != "" {
			t.Errorf("%s: Open = %q, %d", what, s, errno)
		}
	}
	for i := range len(box) {
		for _, bit := range []int{0, 3, 7} {
			other := []byte(box)
			other[i] ^= 1 << bit
			refused("a bit changed", key, nonce, with, string(other))
		}
	}
	for n := range len(box) {
		refused("cut", key, nonce, with, box[:n])
	}
	refused("longer", key, nonce, with, box+"\x00")
	refused("other associated data", key, nonce, "With", box)
	refused("no associated data", key, nonce, "", box)
	refused("longer associated data", key, nonce, with+"\x00", box)
	refused("another nonce", key, bytesOf(12, 9), with, box)
	refused("another key", bytesOf(32, 9), nonce, with, box)
}
