package ladder_test

import (
	"crypto/ecdh"
	"encoding/hex"
	"strings"
	"testing"

	"mailsack/ladder"
)

func bytesOf(n int, with int) string {
	out := make([]byte, n)
	for i := range out {
		out[i] = byte(i*i*11 + i*(17+with) + with*with*3 + with)
	}
	return string(out)
}

func unhex(t *testing.T, s string) string {
	t.Helper()
	out, err := hex.DecodeString(s)
	if err != nil {
		t.Fatal(err)
	}
	return string(out)
}

func TestP4_1Clamp(t *testing.T) {
	for _, s := range []string{
		strings.Repeat("\x00", 32), strings.Repeat("\xff", 32), strings.Repeat("\x80", 32), bytesOf(32, 1), bytesOf(32, 2),
	} {
		want := []byte(s)
		want[0] &= 248
		want[31] &= 127
		want[31] |= 64
		if got, ok := ladder.Clamp(s); !ok || got != string(want) {
			t.Errorf("Clamp(%x) = %x, %v", s, got, ok)
		}
	}
}

func TestP4_1Base(t *testing.T) {
	if got := ladder.Base(); got != "\x09"+strings.Repeat("\x00", 31) {
		t.Errorf("Base = %x", got)
	}
}

func TestP4_2OtherLengths(t *testing.T) {
	right := bytesOf(32, 1)
	for _, n := range []int{0, 1, 31, 33, 64} {
		wrong := bytesOf(n, 1)
		if got, ok := ladder.Clamp(wrong); ok || got != "" {
			t.Errorf("Clamp of %d bytes = %x, %v", n, got, ok)
		}
		if got, ok := ladder.Public(wrong); ok || got != "" {
			t.Errorf("Public of %d bytes = %x, %v", n, got, ok)
		}
		if got, ok := ladder.Point(wrong, right); ok || got != "" {
			t.Errorf("Point of a scalar of %d bytes = %x, %v", n, got, ok)
		}
		if got, ok := ladder.Point(right, wrong); ok || got != "" {
			t.Errorf("Point of a coordinate of %d bytes = %x, %v", n, got, ok)
		}
	}
}

// The vectors of RFC 7748, section 5.2.
func TestP4_2Point(t *testing.T) {
	for _, c := range [][3]string{
		{"a546e36bf0527c9d3b16154b82465edd62144c0ac1fc5a18506a2244ba449ac4",
			"e6db6867583030db3594c1a424b15f7c726624ec26b3353b10a903a6d0ab1c4c",
			"c3da55379de9c6908e94ea4df28d084f32eccf03491c71f754b4075577a28552"},
		{"4b66e9d4d1b4673c5ad22691957d6af5c11b6421e0ea01d42ca4169e7918ba0d",
			"e5210f12786811d3f4b7959d0538ae2c31dbe7106fc03c3efc4cd549c715a493",
			"95cbde9476e8907d7aade45cb4b873f88b595a68799fa152e6f8f7647aac7957"},
	} {
		got, ok := ladder.Point(unhex(t, c[0]), unhex(t, c[1]))
		if !ok || got != unhex(t, c[2]) {
			t.Errorf("Point(%s, %s) = %x, %v", c[0], c[1], got, ok)
		}
	}
}

func TestP4_2Iterated(t *testing.T) {
	k, u := ladder.Base(), ladder.Base()
	for n := range 1000 {
		r, ok := ladder.Point(k, u)
		if !ok {
			t.Fatal("Point failed")
		}
		k, u = r, k
		if n == 0 && hex.EncodeToString([]byte(k)) != "422c8e7a6227d7bca1350b3e2bb7279f7897b87bb6854b783c60e80311ae3079" {
			t.Errorf("after one: %x", k)
		}
	}
	if hex.EncodeToString([]byte(k)) != "684cf59ba83309552800ef566f2f4d3c1c3887c49360e3875f2eb94d99532c51" {
		t.Errorf("after a thousand: %x", k)
	}
}

func TestP4_2AgainstLibrary(t *testing.T) {
	for n := range 40 {
		scalar, other := bytesOf(32, n), bytesOf(32, n+100)
		private, err := ecdh.X25519().NewPrivateKey([]byte(scalar))
		if err != nil {
			t.Fatal(err)
		}
		if got, ok := ladder.Public(scalar); !ok || got != string(private.PublicKey().Bytes()) {
			t.Errorf("Public(%x) = %x, %v", scalar, got, ok)
		}
		public, err := ecdh.X25519().NewPublicKey([]byte(other))
		if err != nil {
			t.Fatal(err)
		}
		want, err := private.ECDH(public)
		if err != nil {
			t.Fatal(err)
		}
		if got, ok := ladder.Point(scalar, other); !ok || got != string(want) {
			t.Errorf("Point(%x, %x) = %x, %v", scalar, other, got, ok)
		}
	}
}

func TestP4_3Agreement(t *testing.T) {
	for n := range 10 {
		a, b := bytesOf(32, n), bytesOf(32, n+50)
		publicA, _ := ladder.Public(a)
		publicB, _ := ladder.Public(b)
		one, _ := ladder.Point(a, publicB)
		two, _ := ladder.Point(b, publicA)
		if one != two || len(one) != 32 {
			t.Errorf("%d: no agreement: %x, %x", n, one, two)
		}
	}
}

func TestP4_3BitsWithoutEffect(t *testing.T) {
	scalar, u := bytesOf(32, 3), bytesOf(32, 4)
	want, _ := ladder.Point(scalar, u)
	for _, c := range []struct{ at, bit int }{{0, 0}, {0, 1}, {0, 2}, {31, 6}, {31, 7}} {
		other := []byte(scalar)
		other[c.at] ^= 1 << c.bit
		if got, ok := ladder.Point(string(other), u); !ok || got != want {
			t.Errorf("bit %d of byte %d of the scalar has an effect", c.bit, c.at)
		}
	}
	other := []byte(u)
	other[31] ^= 0x80
	if got, ok := ladder.Point(scalar, string(other)); !ok || got != want {
		t.Error("the highest bit of u has an effect")
	}
	other = []byte(scalar)
	other[0] ^= 8
	if got, _ := ladder.Point(string(other), u); got == want {
		t.Error("bit 3 of the scalar has no effect")
	}
}

// Coordinates that are read modulo 2^255 - 19, and points of small order.
func TestP4_2EdgeCoordinates(t *testing.T) {
	zero := strings.Repeat("\x00", 32)
	scalar := bytesOf(32, 8)
	for _, u := range []string{zero, "\xed" + strings.Repeat("\xff", 30) + "\x7f", "\x01" + zero[1:], strings.Repeat("\x00", 31) + "\x80"} {
		if got, ok := ladder.Point(scalar, u); !ok || got != zero {
			t.Errorf("Point of %x = %x, %v", u, got, ok)
		}
	}
	nine := "\xf6" + strings.Repeat("\xff", 30) + "\x7f" // 2^255 - 19 + 9
	want, _ := ladder.Public(scalar)
	if got, ok := ladder.Point(scalar, nine); !ok || got != want {
		t.Errorf("Point of the base plus the modulus = %x, want %x", got, want)
	}
}
