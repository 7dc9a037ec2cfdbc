package poly_test

import (
	"encoding/hex"
	"math/big"
	"strings"
	"testing"

	"mailsack/poly"
)

func bytesOf(n int, with int) string {
	out := make([]byte, n)
	for i := range out {
		out[i] = byte(i*i*5 + i*29 + with*with + with)
	}
	return string(out)
}

func littleEndian(s string) *big.Int {
	out := make([]byte, len(s))
	for i := range out {
		out[i] = s[len(s)-1-i]
	}
	return new(big.Int).SetBytes(out)
}

func wantTag(key string, s string) string {
	p := new(big.Int).Sub(new(big.Int).Lsh(big.NewInt(1), 130), big.NewInt(5))
	r := []byte(key[:16])
	for _, i := range []int{3, 7, 11, 15} {
		r[i] &= 15
	}
	for _, i := range []int{4, 8, 12} {
		r[i] &= 252
	}
	sum := new(big.Int)
	for from := 0; from < len(s); from += 16 {
		sum.Add(sum, littleEndian(s[from:min(from+16, len(s))]+"\x01"))
		sum.Mul(sum, littleEndian(string(r))).Mod(sum, p)
	}
	sum.Add(sum, littleEndian(key[16:])).Mod(sum, new(big.Int).Lsh(big.NewInt(1), 128))
	big := sum.FillBytes(make([]byte, 16))
	out := make([]byte, 16)
	for i := range out {
		out[i] = big[15-i]
	}
	return string(out)
}

func check(t *testing.T, key string, s string) {
	t.Helper()
	got, ok := poly.Tag(key, s)
	if want := wantTag(key, s); !ok || got != want {
		t.Errorf("Tag(%x, %x) = %x, %v, want %x", key, s, got, ok, want)
	}
}

// RFC 8439, section 2.5.2.
func TestP6_1Vector(t *testing.T) {
	key, err := hex.DecodeString("85d6be7857556d337f4452fe42d506a80103808afb0db2fd4abff6af4149f51b")
	if err != nil {
		t.Fatal(err)
	}
	got, ok := poly.Tag(string(key), "Cryptographic Forum Research Group")
	if !ok || hex.EncodeToString([]byte(got)) != "a8061dc1305136c6c22b8baf0c0127a9" {
		t.Errorf("Tag = %x, %v", got, ok)
	}
}

func TestP6_1Lengths(t *testing.T) {
	for n := range 200 {
		check(t, bytesOf(32, n), bytesOf(n, n+1))
	}
	check(t, bytesOf(32, 1), bytesOf(5000, 2))
}

// Sums that reach the modulus, or just do not, and carries through all limbs (RFC 8439, appendix A.3).
func TestP6_1Edges(t *testing.T) {
	full := strings.Repeat("\xff", 16)
	zero := strings.Repeat("\x00", 16)
	two := "\x02" + zero[1:]
	one := "\x01" + zero[1:]
	four := "\x01" + strings.Repeat("\x00", 7) + "\x04" + strings.Repeat("\x00", 7)
	for _, low := range []string{zero, one, two, four, full, "\x04" + zero[1:], "\x05" + zero[1:]} {
		for _, high := range []string{zero, full, one, bytesOf(16, 3)} {
			for _, s := range []string{
				"", zero, full, full + full, two, full + "\xf0" + full[1:] + "\x11" + zero[1:],
				full + "\xfb" + strings.Repeat("\xfe", 15) + strings.Repeat("\x01", 16), "\xfd" + full[1:],
				"\xe3\x35\x94\xd7\x50\x5e\x43\xb9" + zero[:8] + "\x33\x94\xd7\x50\x5e\x43\x79\xcd\x01" + zero[:7] + zero + one,
				"\xe3\x35\x94\xd7\x50\x5e\x43\xb9" + zero[:8] + "\x33\x94\xd7\x50\x5e\x43\x79\xcd\x01" + zero[:7] + zero,
				"\x00", "\xff", zero + "\x00", full + "\xff", full[:15], zero[:15],
			} {
				check(t, low+high, s)
			}
		}
	}
	for low := range 256 {
		check(t, "\x01"+zero[1:]+zero, string([]byte{byte(low)})+full[1:]+full+full+full)
		check(t, "\x01"+zero[1:]+full, full+full+full+string([]byte{byte(low)})+full[1:])
	}
}

func TestP6_1OtherLengths(t *testing.T) {
	for _, n := range []int{0, 1, 16, 31, 33, 64} {
		if got, ok := poly.Tag(bytesOf(n, 1), "text"); ok || got != "" {
			t.Errorf("Tag under a key of %d bytes = %x, %v", n, got, ok)
		}
	}
}

func TestP6_2(t *testing.T) {
	for n := range 20 {
		key := bytesOf(32, n)
		if got, ok := poly.Tag(key, ""); !ok || got != key[16:] {
			t.Errorf("Tag(%x, empty) = %x, %v", key, got, ok)
		}
		half := strings.Repeat("\x00", 16) + key[16:]
		if got, ok := poly.Tag(half, bytesOf(n*7, n)); !ok || got != key[16:] {
			t.Errorf("Tag(%x, ..) = %x, %v", half, got, ok)
		}
	}
	if got, ok := poly.Tag(strings.Repeat("\x00", 32), "any"); !ok || got != strings.Repeat("\x00", 16) {
		t.Errorf("Tag under zeros = %x, %v", got, ok)
	}
}
