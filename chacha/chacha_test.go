package chacha_test

import (
	"encoding/hex"
	"math"
	"strings"
	"testing"

	"mailsack/chacha"
)

func bytesOf(n int, with int) string {
	out := make([]byte, n)
	for i := range out {
		out[i] = byte(i*i*3 + i*13 + with)
	}
	return string(out)
}

func rising(n int) string {
	out := make([]byte, n)
	for i := range out {
		out[i] = byte(i)
	}
	return string(out)
}

func unhex(t *testing.T, s string) string {
	t.Helper()
	out, err := hex.DecodeString(strings.ReplaceAll(s, " ", ""))
	if err != nil {
		t.Fatal(err)
	}
	return string(out)
}

func TestP5_1Quarter(t *testing.T) {
	a, b, c, d := chacha.Quarter(0x11111111, 0x01020304, 0x9b8d6f43, 0x01234567)
	if a != 0xea2a92f4 || b != 0xcb1cf8ce || c != 0x4581472e || d != 0x5881c4bb {
		t.Errorf("Quarter = %x %x %x %x", a, b, c, d)
	}
	a, b, c, d = chacha.Quarter(0x516461b1, 0x2a5f714c, 0x53372767, 0x3d631689)
	if a != 0xbdb886dc || b != 0xcfacafd2 || c != 0xe46bea80 || d != 0xccc07c79 {
		t.Errorf("Quarter of the RFC's state = %x %x %x %x", a, b, c, d)
	}
	a, b, c, d = chacha.Quarter(0, 0, 0, 0)
	if a|b|c|d != 0 {
		t.Errorf("Quarter of zeros = %x %x %x %x", a, b, c, d)
	}
}

// RFC 8439, section 2.3.2.
func TestP5_1Block(t *testing.T) {
	got, ok := chacha.Block(rising(32), unhex(t, "000000090000004a00000000"), 1)
	want := unhex(t, "10f1e7e4d13b5915500fdd1fa32071c4c7d1f4c733c068030422aa9ac3d46c4ed2826446079faa0914c2d705d98b02a2b5129cd1de164eb9cbd083e8a2503c4e")
	if !ok || got != want {
		t.Errorf("Block = %x, %v", got, ok)
	}
	// Appendix A.1, the first two cases: zero key and nonce, counters 0 and 1.
	key, nonce := strings.Repeat("\x00", 32), strings.Repeat("\x00", 12)
	for counter, want := range []string{
		"76b8e0ada0f13d90405d6ae55386bd28bdd219b8a08ded1aa836efcc8b770dc7da41597c5157488d7724e03fb8d84a376a43b8f41518a11cc387b669b2ee6586",
		"9f07e7be5551387a98ba977c732d080dcb0f29a048e3656912c6533e32ee7aed29b721769ce64e43d57133b074d839d531ed1f28510afb45ace10a1f4b794d6f",
	} {
		got, ok := chacha.Block(key, nonce, uint32(counter))
		if !ok || got != unhex(t, want) {
			t.Errorf("Block %d of zeros = %x, %v", counter, got, ok)
		}
	}
}

// RFC 8439, section 2.4.2.
func TestP5_2Turn(t *testing.T) {
	text := "Ladies and Gentlemen of the class of '99: If I could offer you only one tip for the future, sunscreen would be it."
	got, ok := chacha.Turn(rising(32), unhex(t, "000000000000004a00000000"), 1, text)
	want := unhex(t, "6e2e359a2568f98041ba0728dd0d6981e97e7aec1d4360c20a27afccfd9fae0bf91b65c5524733ab8f593dabcd62b3571639d624e65152ab8f530c359f0861d807ca0dbf500d6a6156a38e088a22b65e52bc514d16ccf806818ce91ab77937365af90bbf74a35be6b40b8eedf2785e42874d")
	if !ok || got != want {
		t.Errorf("Turn = %x, %v", got, ok)
	}
}

// Each byte is combined with that of its block, whatever the length.
func TestP5_2TurnIsBlocks(t *testing.T) {
	key, nonce := bytesOf(32, 1), bytesOf(12, 2)
	for _, counter := range []uint32{0, 1, 7, 1 << 31, math.MaxUint32 - 1, math.MaxUint32} {
		stream := ""
		for i := range uint32(5) {
			block, ok := chacha.Block(key, nonce, counter+i)
			if !ok || len(block) != 64 {
				t.Fatalf("Block %d: %d bytes, %v", counter+i, len(block), ok)
			}
			stream += block
		}
		for _, n := range []int{0, 1, 2, 63, 64, 65, 127, 128, 129, 256, 320} {
			s := bytesOf(n, 3)
			want := []byte(s)
			for i := range want {
				want[i] ^= stream[i]
			}
			if got, ok := chacha.Turn(key, nonce, counter, s); !ok || got != string(want) {
				t.Errorf("Turn of %d bytes from %d = %x, %v", n, counter, got, ok)
			}
		}
	}
}

// The key, the nonce and the counter all matter, in every byte.
func TestP5_1Inputs(t *testing.T) {
	key, nonce := bytesOf(32, 1), bytesOf(12, 2)
	seen := map[string]string{}
	note := func(what string, key string, nonce string, counter uint32) {
		got, ok := chacha.Block(key, nonce, counter)
		if !ok {
			t.Fatal(what)
		}
		if seen[got] != "" {
			t.Errorf("%s: the same block as %s", what, seen[got])
		}
		seen[got] = what
	}
	note("plain", key, nonce, 0)
	for i := range 32 {
		other := []byte(key)
		other[i] ^= 1
		note("key", string(other), nonce, 0)
	}
	for i := range 12 {
		other := []byte(nonce)
		other[i] ^= 1
		note("nonce", key, string(other), 0)
	}
	for i := range 32 {
		note("counter", key, nonce, 1<<i)
	}
}

func TestP5_1OtherLengths(t *testing.T) {
	key, nonce := bytesOf(32, 1), bytesOf(12, 2)
	for _, c := range [][2]string{
		{"", nonce}, {key[:31], nonce}, {key + "x", nonce}, {key, ""}, {key, nonce[:11]}, {key, nonce + "x"},
		{key[:12], key}, {key[:16], nonce}, {key, nonce[:8]},
	} {
		if got, ok := chacha.Block(c[0], c[1], 1); ok || got != "" {
			t.Errorf("Block with %d and %d bytes = %x, %v", len(c[0]), len(c[1]), got, ok)
		}
		for _, s := range []string{"", "text"} {
			if got, ok := chacha.Turn(c[0], c[1], 1, s); ok || got != "" {
				t.Errorf("Turn with %d and %d bytes = %x, %v", len(c[0]), len(c[1]), got, ok)
			}
		}
	}
}

func TestP5_3Twice(t *testing.T) {
	key, nonce := bytesOf(32, 5), bytesOf(12, 6)
	for _, n := range []int{0, 1, 64, 200, 1000} {
		s := bytesOf(n, 7)
		once, _ := chacha.Turn(key, nonce, 3, s)
		twice, ok := chacha.Turn(key, nonce, 3, once)
		if !ok || twice != s || n > 8 && once == s {
			t.Errorf("Turn of %d bytes, twice, differs", n)
		}
	}
}
