package part_test

import (
	"slices"
	"strings"
	"testing"

	"mailsack/part"
)

func TestP19_1Split(t *testing.T) {
	for _, c := range [][2]string{
		{"", ""}, {"A: x", ""}, {"A: x\r\n", ""}, {"A: x\r\n\r\n", "text"}, {"A: x\r\n\r\n", "\r\n\r\n"}, {"\r\n", "A: x\r\n\r\ntext"}, {"\r\n", ""}, {"\r\n", "\r\n"},
		{"A: x\r\nB: y\r\n z\r\n\r\n", "C: d\r\n\r\nmore"}, {"A: x\n\nB: y\r\r\n\r\n", "text"}, {"no field\r\n\r\n", ""}, {"A: x\n\n", ""}, {"A\r\n \r\nB", ""}, {"a\r\r\n\n", ""}, {"\n\r\n\r\n", "x"},
	} {
		head, body := part.Split(c[0] + c[1])
		if head != c[0] || body != c[1] {
			t.Errorf("Split(%q) = %q, %q", c[0]+c[1], head, body)
		}
	}
}

type pair struct{ name, value string }

func fields() map[string][]pair {
	return map[string][]pair{
		"":                                     nil,
		"\r\n":                                 nil,
		"A: x\r\n\r\n":                         {{"A", "x"}},
		"A: x":                                 {{"A", "x"}},
		"A:x\r\nB:y\r\n":                       {{"A", "x"}, {"B", "y"}},
		"A:\r\nB: \t \r\nC: \t c d\t \r\n\r\n": {{"A", ""}, {"B", ""}, {"C", "c d"}},
		"A: x\r\n y\r\n\tz\r\nB: w\r\n\r\n":    {{"A", "x y\tz"}, {"B", "w"}},
		"A: x \r\n  y \r\n \r\n":               {{"A", "x   y"}},
		"A:\r\n x\r\n\r\n":                     {{"A", "x"}},
		" A: x\r\nB: y\r\n\r\n":                {{"B", "y"}},
		"\tA: x\r\n":                           nil,
		"none\r\n A: x\r\nB: y\r\n C: z\r\n":   {{"B", "y C: z"}},
		"A: x\r\nnone\r\n y\r\nB: z\r\n":       {{"A", "x"}, {"B", "z"}},
		"A: b: c:d\r\n":                        {{"A", "b: c:d"}},
		": x\r\n":                              {{"", "x"}},
		":\r\n":                                {{"", ""}},
		"A b : x\r\n":                          {{"A b ", "x"}},
		"A: x\nB: y\r\n":                       {{"A", "x\nB: y"}},
		"A: \rx\r\r\n":                         {{"A", "\rx\r"}},
		"A: x\r\na: y\r\nA: z\r\n\r\n":         {{"A", "x"}, {"a", "y"}, {"A", "z"}},
		"\x00\xff: \x01\r\n":                   {{"\x00\xff", "\x01"}},
		"A: x\r\n y":                           {{"A", "x y"}},
		"Subject: =\r\n\t=\r\nX-Y_Z: \v v\r\n": {{"Subject", "=\t="}, {"X-Y_Z", "\v v"}},
	}
}

func TestP19_1Names(t *testing.T) {
	for head, want := range fields() {
		var names []string
		for _, p := range want {
			names = append(names, p.name)
		}
		if got := part.Names(head); !slices.Equal(got, names) {
			t.Errorf("Names(%q) = %q, want %q", head, got, names)
		}
	}
}

func TestP19_1Field(t *testing.T) {
	for head, want := range fields() {
		seen := map[string]bool{}
		for _, p := range want {
			key := strings.ToUpper(p.name)
			if seen[key] {
				continue
			}
			seen[key] = true
			for _, name := range []string{p.name, asciiUpper(p.name), asciiLower(p.name)} {
				if got, ok := part.Field(head, name); !ok || got != p.value {
					t.Errorf("Field(%q, %q) = %q, %v, want %q", head, name, got, ok, p.value)
				}
			}
		}
		for _, name := range []string{"Z", "A ", " A", "A:", "none", "Sub", "X-Y-Z"} {
			if got, ok := part.Field(head, name); ok || got != "" {
				t.Errorf("Field(%q, %q) = %q, %v", head, name, got, ok)
			}
		}
	}
}

func asciiUpper(s string) string { return shifted(s, 'a', 'z', -32) }

func asciiLower(s string) string { return shifted(s, 'A', 'Z', 32) }

func shifted(s string, from, to byte, by int) string {
	out := []byte(s)
	for i, c := range out {
		if c >= from && c <= to {
			out[i] = byte(int(c) + by)
		}
	}
	return string(out)
}

// Only a to z have another case: [ and {, @ and `, and bytes beyond 127 are what they are.
func TestP19_1Case(t *testing.T) {
	for _, c := range []struct {
		s, t string
		want bool
	}{
		{"", "", true}, {"a", "", true}, {"", "a", false}, {"abc", "B", true}, {"ABC", "bc", true}, {"AbC", "aBc", true}, {"abc", "ac", false}, {"ab", "abc", false}, {"a\r\nb", "A\r\nB", true},
		{"[", "{", false}, {"{", "[", false}, {"@", "`", false}, {"\xe9", "\xc9", false}, {"é", "É", false}, {"ß", "SS", false}, {"\u017f", "s", false}, {"\u212a", "k", false}, {"\x00x", "\x00X", true}, {"zz", "ZZ", true},
		{"aab", "AB", true}, {"a b", "ab", false},
	} {
		if got := part.Has(c.s, c.t); got != c.want {
			t.Errorf("Has(%q, %q) = %v", c.s, c.t, got)
		}
	}
	for name, want := range map[string]bool{"A[": true, "a[": true, "A{": false, "a\xc9": false, "A\xe9": true} {
		_, ok := part.Field("a[: x\r\na\xe9: y\r\n", name)
		if ok != want {
			t.Errorf("Field(%q) = %v", name, ok)
		}
	}
}

func TestP19_1Lines(t *testing.T) {
	for s, want := range map[string]int{"": 0, "a": 0, "\r\n": 1, "a\r\nb": 1, "a\r\nb\r\n": 2, "\r\n\r\n\r\n": 3, "\n\n\r\r": 0, "\r\r\n\n": 1, "\n\r\n\r": 1} {
		if got := part.Lines(s); got != want {
			t.Errorf("Lines(%q) = %d", s, got)
		}
	}
}

func TestP19_2(t *testing.T) {
	pieces := []string{"\r\n", "\r", "\n", "A: x", " y", "b", "\r\n\r\n", ":", "\t"}
	seed := uint32(11)
	for range 3000 {
		s := ""
		for range 8 {
			seed = seed*1664525 + 1013904223
			s += pieces[int(seed>>14)%len(pieces)]
		}
		head, body := part.Split(s)
		if head+body != s {
			t.Fatalf("Split(%q) = %q, %q", s, head, body)
		}
		// Another body: as long as there is an empty line, the header is the same.
		if body != "" {
			other, _ := part.Split(head + "A: other\r\nC: z\r\n\r\n")
			if other != head || !slices.Equal(part.Names(other), part.Names(head)) {
				t.Fatalf("the body of %q affects its fields", s)
			}
		}
	}
	head, body := part.Split("A: x\r\n\r\ntext")
	if value, ok := part.Field(head, "a"); body != "text" || !ok || value != "x" {
		t.Errorf("body %q, field %q", body, value)
	}
}
