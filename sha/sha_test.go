package sha_test

import (
	"crypto/sha256"
	"encoding/hex"
	"strings"
	"testing"

	"mailsack/sha"
)

func bytesOf(n int) string {
	out := make([]byte, n)
	for i := range out {
		out[i] = byte(i*i*7 + i*31 + n)
	}
	return string(out)
}

func TestP1_1Sum(t *testing.T) {
	for s, want := range map[string]string{
		"":    "e3b0c44298fc1c149afbf4c8996fb92427ae41e4649b934ca495991b7852b855",
		"abc": "ba7816bf8f01cfea414140de5dae2223b00361a396177a9cb410ff61f20015ad",
		"abcdbcdecdefdefgefghfghighijhijkijkljklmklmnlmnomnopnopq": "248d6a61d20638b8e5c026930c3e6039a33ce45964ff2167f6ecedd419db06c1",
		strings.Repeat("a", 1000000):                               "cdc76e5c9914fb9281a1c7e284d73e67f1809a48a497200e046d39ccc7112cd0",
	} {
		if got := hex.EncodeToString([]byte(sha.Sum(s))); got != want {
			t.Errorf("Sum of %d bytes = %s, want %s", len(s), got, want)
		}
	}
}

// Every length around the ends of blocks, where the padding takes one block more.
func TestP1_1SumOfAllLengths(t *testing.T) {
	for n := range 400 {
		s := bytesOf(n)
		want := sha256.Sum256([]byte(s))
		if sha.Sum(s) != string(want[:]) {
			t.Errorf("Sum of %d bytes differs", n)
		}
	}
}

func TestP1_1LongInput(t *testing.T) {
	// More than 2^16 and 2^29 bits in all, so that several bytes of the length count.
	for _, n := range []int{8191, 8192, 70000, 1 << 21, 1<<21 + 55} {
		s := bytesOf(n)
		want := sha256.Sum256([]byte(s))
		if sha.Sum(s) != string(want[:]) {
			t.Errorf("Sum of %d bytes differs", n)
		}
	}
}

func start() [8]uint32 {
	return [8]uint32{
		0x6a09e667, 0xbb67ae85, 0x3c6ef372, 0xa54ff53a,
		0x510e527f, 0x9b05688c, 0x1f83d9ab, 0x5be0cd19,
	}
}

func stateBytes(h [8]uint32) string {
	var out []byte
	for _, w := range h {
		out = append(out, byte(w>>24), byte(w>>16), byte(w>>8), byte(w))
	}
	return string(out)
}

func TestP1_1Block(t *testing.T) {
	block := "abc\x80" + strings.Repeat("\x00", 59) + "\x18"
	if got := stateBytes(sha.Block(start(), block)); got != sha.Sum("abc") {
		t.Errorf("Block of the padded abc: %x", got)
	}
	var zero [8]uint32
	got := sha.Block(zero, strings.Repeat("\x00", 64))
	if got == zero {
		t.Error("Block of zero bytes leaves the zero state as it is")
	}
}

func TestP1_1BlockOfOtherLengths(t *testing.T) {
	h := start()
	for n := range 200 {
		if n == 64 {
			continue
		}
		if sha.Block(h, bytesOf(n)) != h {
			t.Errorf("Block of %d bytes changes the state", n)
		}
	}
}

// P1.2: a long input is processed block by block.
func TestP1_2BlockByBlock(t *testing.T) {
	s := bytesOf(64 * 5)
	h := start()
	for i := range 5 {
		h = sha.Block(h, s[64*i:64*i+64])
	}
	last := "\x80" + strings.Repeat("\x00", 61) + "\x0a\x00"
	if got := stateBytes(sha.Block(h, last)); got != sha.Sum(s) {
		t.Errorf("block by block: %x, at once: %x", got, sha.Sum(s))
	}
}

func TestP1_2Length(t *testing.T) {
	for n := range 200 {
		if s := sha.Sum(bytesOf(n)); len(s) != 32 {
			t.Errorf("digest of %d bytes has %d bytes", n, len(s))
		}
	}
}

func TestP1_1Hex(t *testing.T) {
	all := make([]byte, 256)
	for i := range all {
		all[i] = byte(i)
	}
	for _, s := range []string{"", "\x00", "\x0a\xff\x1a\xa1", string(all)} {
		if got, want := sha.Hex(s), hex.EncodeToString([]byte(s)); got != want {
			t.Errorf("Hex(%q) = %s, want %s", s, got, want)
		}
	}
}
