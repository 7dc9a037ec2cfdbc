package mac_test

import (
	"crypto/hkdf"
	"crypto/hmac"
	"crypto/pbkdf2"
	"crypto/sha256"
	"encoding/hex"
	"math"
	"strings"
	"testing"

	"mailsack/api"
	"mailsack/mac"
)

func bytesOf(n int, with int) string {
	out := make([]byte, n)
	for i := range out {
		out[i] = byte(i*i*5 + i*17 + with)
	}
	return string(out)
}

func wantSum(key string, s string) string {
	h := hmac.New(sha256.New, []byte(key))
	h.Write([]byte(s))
	return string(h.Sum(nil))
}

func TestP2_1Sum(t *testing.T) {
	got := hex.EncodeToString([]byte(mac.Sum("Jefe", "what do ya want for nothing?")))
	if got != "5bdcc146bf60754e6a042426089575c75a003f089d2739839dec58b964ec3843" {
		t.Errorf("Sum with Jefe: %s", got)
	}
	for _, keyBytes := range []int{0, 1, 20, 31, 32, 33, 63, 64, 65, 100, 131, 200} {
		for _, n := range []int{0, 1, 32, 55, 56, 63, 64, 65, 200} {
			key, s := bytesOf(keyBytes, 3), bytesOf(n, 7)
			if mac.Sum(key, s) != wantSum(key, s) {
				t.Errorf("Sum with a key of %d bytes, of %d bytes, differs", keyBytes, n)
			}
		}
	}
}

func TestP2_1Same(t *testing.T) {
	for _, c := range []struct {
		a, b string
		want bool
	}{
		{"", "", true}, {"a", "a", true}, {"a", "b", false}, {"", "a", false}, {"a", "", false},
		{"ab", "a", false}, {"a", "ab", false}, {"a\x00", "a", false}, {"\x01\x01", "\x02\x02", false},
		{"\x00", "\x80", false}, {"abc", "abd", false}, {"abc", "xbc", false}, {"\x01\x02", "\x02\x01", false},
	} {
		if got := mac.Same(c.a, c.b); got != c.want {
			t.Errorf("Same(%q, %q) = %v", c.a, c.b, got)
		}
	}
}

func TestP2_1SameAtEachPlace(t *testing.T) {
	s := bytesOf(40, 1)
	for i := range len(s) {
		for bit := range 8 {
			other := []byte(s)
			other[i] ^= 1 << bit
			if mac.Same(s, string(other)) {
				t.Errorf("Same with bit %d of byte %d changed", bit, i)
			}
		}
	}
	// Differences that cancel each other in a sum or an exclusive or.
	if mac.Same("\xff\x00\x10\x10", "\x00\xff\x10\x10") || mac.Same("\x05\x05", "\x06\x06") {
		t.Error("Same with two differences")
	}
}

func TestP2_2Password(t *testing.T) {
	for _, rounds := range []int{1, 2, 3, 4, 5, 63, 64} {
		for _, c := range [][2]string{{"", ""}, {"pw", "salt"}, {bytesOf(100, 0), bytesOf(16, 1)}, {bytesOf(64, 9), ""}} {
			want, err := pbkdf2.Key(sha256.New, c[0], []byte(c[1]), rounds, 32)
			if err != nil {
				t.Fatal(err)
			}
			got, errno := mac.Password(c[0], c[1], rounds)
			if errno != api.OK || got != string(want) {
				t.Errorf("Password(%q, %q, %d) = %x, %d", c[0], c[1], rounds, got, errno)
			}
		}
	}
}

func TestP2_2PasswordRounds(t *testing.T) {
	for _, rounds := range []int{0, -1, 65, 1000, math.MinInt, math.MaxInt} {
		if got, errno := mac.Password("pw", "salt", rounds); errno != api.ErrArg || got != "" {
			t.Errorf("Password with %d rounds = %q, %d", rounds, got, errno)
		}
	}
}

func TestP2_2Draw(t *testing.T) {
	secret := strings.Repeat("\x0b", 22)
	got, errno := mac.Draw(secret, "\x00\x01\x02\x03\x04\x05\x06\x07\x08\x09\x0a\x0b\x0c",
		"\xf0\xf1\xf2\xf3\xf4\xf5\xf6\xf7\xf8\xf9", 42)
	want := "3cb25f25faacd57a90434f64d0362f2a2d2d0a90cf1a5a4c5db02d56ecc4c5bf34007208d5b887185865"
	if errno != api.OK || hex.EncodeToString([]byte(got)) != want {
		t.Errorf("Draw of RFC 5869's first case: %x, %d", got, errno)
	}
	for _, n := range []int{0, 1, 31, 32, 33, 64, 92, 8159, 8160} {
		for _, c := range [][3]string{{"", "", ""}, {"secret", "", "info"}, {bytesOf(80, 1), bytesOf(70, 2), bytesOf(90, 3)}} {
			want, err := hkdf.Key(sha256.New, []byte(c[0]), []byte(c[1]), c[2], n)
			if err != nil {
				t.Fatal(err)
			}
			got, errno := mac.Draw(c[0], c[1], c[2], n)
			if errno != api.OK || got != string(want) {
				t.Errorf("Draw of %d bytes differs (%d)", n, errno)
			}
		}
	}
}

func TestP2_2DrawLengths(t *testing.T) {
	for _, n := range []int{-1, 8161, 8192, math.MinInt, math.MaxInt} {
		if got, errno := mac.Draw("secret", "salt", "info", n); errno != api.ErrArg || got != "" {
			t.Errorf("Draw of %d bytes = %d bytes, %d", n, len(got), errno)
		}
	}
}

func TestP2_3Prefixes(t *testing.T) {
	long, _ := mac.Draw("s", "t", "u", 200)
	for n := range 200 {
		short, errno := mac.Draw("s", "t", "u", n)
		if errno != api.OK || len(short) != n || !strings.HasPrefix(long, short) {
			t.Errorf("%d bytes are not a prefix", n)
		}
	}
}

func TestP2_3OneRound(t *testing.T) {
	got, _ := mac.Password("pw", "salt", 1)
	if got != mac.Sum("pw", "salt\x00\x00\x00\x01") {
		t.Errorf("one round: %x", got)
	}
}
