package query_test

import (
	"slices"
	"strings"
	"testing"

	"mailsack/api"
	"mailsack/query"
)

const text = "From: Al <al@here>\r\nTo: bo\r\n cy\r\nSubject: Hello World\r\nX-Tag: one\r\nSUBJECT: second\r\n\r\nBody text\r\nFrom: nobody\r\n"

func refuse(t *testing.T, words []string) {
	t.Helper()
	if _, errno := query.Parse(words); errno != api.ErrForm {
		t.Errorf("Parse(%q) = %d", words, errno)
	}
}

func view() query.View {
	return query.View{Seq: 3, UID: 30, Flags: 0, Size: 100, Text: text, Seqs: 5, UIDs: 50}
}

func flagged(flags int) query.View {
	v := view()
	v.Flags = flags
	return v
}

func expect(t *testing.T, words []string, v query.View, want bool) {
	t.Helper()
	before := slices.Clone(words)
	q, errno := query.Parse(words)
	if errno != api.OK {
		t.Errorf("Parse(%q) = %d", words, errno)
		return
	}
	if got := query.Holds(q, v); got != want {
		t.Errorf("%q holds: %v, want %v (flags %d)", words, got, want, v.Flags)
	}
	if !slices.Equal(words, before) {
		t.Errorf("Parse changes %q", before)
	}
}

func words(s string) []string {
	if s == "" {
		return nil
	}
	return strings.Split(s, " ")
}

func TestP20_1Flags(t *testing.T) {
	for flags := range 64 {
		v := flagged(flags)
		has := func(flag int) bool { return flags&flag != 0 }
		for key, want := range map[string]bool{
			"ALL": true, "SEEN": has(api.Seen), "UNSEEN": !has(api.Seen), "ANSWERED": has(api.Answered), "UNANSWERED": !has(api.Answered), "FLAGGED": has(api.Flagged), "UNFLAGGED": !has(api.Flagged),
			"DELETED": has(api.Deleted), "UNDELETED": !has(api.Deleted), "DRAFT": has(api.Draft), "UNDRAFT": !has(api.Draft), "RECENT": has(api.Recent), "OLD": !has(api.Recent),
			"NEW": has(api.Recent) && !has(api.Seen),
		} {
			expect(t, []string{key}, v, want)
			expect(t, []string{strings.ToLower(key)}, v, want)
			expect(t, []string{key[:1] + strings.ToLower(key[1:])}, v, want)
			expect(t, []string{"NOT", key}, v, !want)
		}
	}
}

func TestP20_1Sizes(t *testing.T) {
	for s, want := range map[string]bool{
		"LARGER 99": true, "LARGER 100": false, "LARGER 101": false, "SMALLER 99": false, "SMALLER 100": false, "SMALLER 101": true, "LARGER 0": true, "SMALLER 0": false,
		"larger 1": true, "smaller 999999999": true, "LARGER 999999999": false,
	} {
		expect(t, words(s), view(), want)
	}
	empty := view()
	empty.Size = 0
	expect(t, words("LARGER 0"), empty, false)
	expect(t, words("SMALLER 1"), empty, true)
}

func TestP20_1Texts(t *testing.T) {
	for _, c := range []struct {
		words []string
		want  bool
	}{
		{[]string{"FROM", "al"}, true}, {[]string{"FROM", "AL <AL@"}, true}, {[]string{"FROM", "nobody"}, false}, {[]string{"from", "bo"}, false}, {[]string{"FROM", ""}, true},
		{[]string{"TO", "bo cy"}, true}, {[]string{"TO", "CY"}, true}, {[]string{"TO", "al"}, false}, {[]string{"SUBJECT", "hello"}, true}, {[]string{"SUBJECT", "o w"}, true},
		{[]string{"SUBJECT", "second"}, false}, {[]string{"SUBJECT", " Hello"}, false}, {[]string{"subject", "WORLD"}, true},
		{[]string{"BODY", "body text"}, true}, {[]string{"BODY", "hello"}, false}, {[]string{"BODY", "From: nobody"}, true}, {[]string{"BODY", ""}, true}, {[]string{"BODY", "text\r\nfrom"}, true},
		{[]string{"TEXT", "hello"}, true}, {[]string{"TEXT", "nobody"}, true}, {[]string{"TEXT", "one\r\nsubject"}, true}, {[]string{"TEXT", "zzz"}, false}, {[]string{"text", ""}, true},
		{[]string{"HEADER", "x-tag", "ONE"}, true}, {[]string{"HEADER", "X-Tag", "two"}, false}, {[]string{"HEADER", "X-Tag", ""}, true}, {[]string{"HEADER", "none", ""}, false},
		{[]string{"HEADER", "", ""}, false}, {[]string{"header", "subject", "world"}, true}, {[]string{"HEADER", "From", "nobody"}, false},
		{[]string{"SUBJECT", "SEEN"}, false}, {[]string{"FROM", "FROM"}, false}, {[]string{"BODY", "NOT"}, false},
	} {
		expect(t, c.words, view(), c.want)
	}
	none := view()
	none.Text = ""
	for _, s := range []string{"FROM", "TO", "SUBJECT"} {
		expect(t, []string{s, ""}, none, false)
	}
	expect(t, []string{"BODY", ""}, none, true)
	empty := view()
	empty.Text = "Subject:\r\n\r\n"
	expect(t, []string{"SUBJECT", ""}, empty, true)
	expect(t, []string{"SUBJECT", "x"}, empty, false)
}

func TestP20_1Sets(t *testing.T) {
	for s, want := range map[string]bool{
		"3": true, "2": false, "1:3": true, "4:1": true, "4:5": false, "*": false, "3:*": true, "4:*": false, "1,2,3": true, "30": false, "30:50": false, "6:*": false, "*:3": true, "5,*,3": true,
		"UID 30": true, "UID 3": false, "UID 29:31": true, "UID *": false, "UID 30:*": true, "UID 31:*": false, "uid 60:*": false, "UID 1,30": true, "UID *:20": true, "UID 5": false,
	} {
		expect(t, words(s), view(), want)
	}
	last := view()
	last.Seq, last.UID = 5, 50
	for s, want := range map[string]bool{"*": true, "UID *": true, "UID 60:*": true, "9:*": true, "5": true, "50": false, "UID 50": true, "UID 5": false} {
		expect(t, words(s), last, want)
	}
}

func TestP20_1Combined(t *testing.T) {
	for s, want := range map[string]bool{
		"NOT SEEN LARGER 5": true, "SEEN LARGER 5": false, "LARGER 5 SEEN": false, "NOT NOT SEEN": false, "not not all": true, "OR SEEN UNSEEN": true, "OR SEEN DELETED": false,
		"OR DELETED ALL": true, "or ALL SEEN": true, "OR OR SEEN DELETED 3": true, "OR SEEN OR DELETED 4": false, "OR NOT SEEN DELETED": true, "NOT OR SEEN DELETED": true, "NOT OR SEEN ALL": false,
		"OR SUBJECT hello SEEN": true, "OR HEADER X-Tag no UID 30": true, "OR HEADER X-Tag no UID 31": false, "OR 1 3 UNSEEN": true, "OR 1 3 SEEN": false, "NOT 3": false, "NOT 4": true, "3 UID 30": true, "3 UID 31": false,
		"NOT SEEN SEEN": false, "OR SEEN SEEN ALL": false, "NOT ALL ALL": false, "1:5 1:5 ALL UNSEEN": true, "OR LARGER 5 SMALLER 5 FROM al": true, "OR LARGER 500 SMALLER 5": false,
	} {
		expect(t, words(s), view(), want)
	}
}

func TestP20_1Errors(t *testing.T) {
	for _, l := range [][]string{
		nil, {}, {""}, {"X"}, {"SEENS"}, {"SEE"}, {" SEEN"}, {"SEEN "}, {"ALL", "X"}, {"X", "ALL"}, {"NOT"}, {"NOT", "X"}, {"OR"}, {"OR", "ALL"}, {"OR", "ALL", "X"}, {"OR", "X", "ALL"}, {"NOT", "NOT"},
		{"LARGER"}, {"LARGER", ""}, {"LARGER", "x"}, {"LARGER", "-1"}, {"LARGER", "+1"}, {"LARGER", "01"}, {"LARGER", "00"}, {"LARGER", "1000000000"}, {"LARGER", "1x"}, {"SMALLER", "*"}, {"SMALLER"}, {"LARGER", " 1"},
		{"FROM"}, {"TO"}, {"SUBJECT"}, {"BODY"}, {"TEXT"}, {"HEADER"}, {"HEADER", "a"}, {"UID"}, {"UID", "x"}, {"UID", ""}, {"UID", "0"}, {"UID", "1,"}, {"0"}, {"01"}, {"1,"}, {"1:2:3"}, {"4294967296"},
		{"ALL", "OR", "ALL"}, {"ALL", ""}, {"UNRECENT"}, {"UNOLD"}, {"(", "ALL", ")"}, {"SEEN UNSEEN"}, {"KEYWORD", "x"}, {"ſEEN"},
	} {
		q, errno := query.Parse(l)
		if errno != api.ErrForm {
			t.Errorf("Parse(%q) = %d", l, errno)
		}
		query.Holds(q, view())
	}
}

func nested(n int, key ...string) []string {
	return append(slices.Repeat([]string{"NOT"}, n), key...)
}

func TestP20_1Levels(t *testing.T) {
	for _, n := range []int{0, 1, 2, 14, 15} {
		expect(t, nested(n, "ALL"), view(), n%2 == 0)
		expect(t, nested(n, "SUBJECT", "hello"), view(), n%2 == 0)
	}
	for _, n := range []int{16, 17, 18, 40, 5000} {
		for _, name := range []string{"NOT", "OR"} {
			l := append(slices.Repeat([]string{name}, n), slices.Repeat([]string{"ALL"}, n+1)...)
			if name == "NOT" {
				l = nested(n, "ALL")
			}
			if _, errno := query.Parse(l); errno != api.ErrForm {
				t.Errorf("%s, %d times: %d", name, n, errno)
			}
		}
	}
	// Keys beside each other are not nested.
	expect(t, slices.Repeat([]string{"NOT", "SEEN"}, 100), view(), true)
	expect(t, append(slices.Repeat([]string{"ALL"}, 100), nested(10, "SEEN")...), view(), false)
	for _, n := range []int{1, 2, 15} {
		expect(t, append(slices.Repeat([]string{"OR", "SEEN"}, n), "ALL"), view(), true)
		expect(t, append(slices.Repeat([]string{"OR", "SEEN"}, n), "SEEN"), view(), false)
		left := append(slices.Repeat([]string{"OR"}, n), "ALL")
		expect(t, append(left, slices.Repeat([]string{"SEEN"}, n)...), view(), true)
	}
	for _, n := range []int{16, 17, 18, 40} {
		if _, errno := query.Parse(append(slices.Repeat([]string{"OR", "SEEN"}, n), "ALL")); errno != api.ErrForm {
			t.Errorf("OR in the second key, %d times: %d", n, errno)
		}
	}
}

// The deepest key that is taken stands 16 levels deep, whatever it is and whatever it stands in.
func TestP20_1DeepestLevel(t *testing.T) {
	deepest := nested(15)
	for s, want := range map[string]bool{
		"SEEN": true, "3": false, "UID 30": false, "LARGER 5": false, "FROM nobody": true, "HEADER X-Tag two": true, "BODY zz": true, "OLD": false,
	} {
		expect(t, append(slices.Clone(deepest), words(s)...), view(), want)
		refuse(t, append(nested(16), words(s)...))
	}
	mixed := slices.Concat(slices.Repeat([]string{"NOT", "OR", "SEEN"}, 7), []string{"NOT"})
	expect(t, slices.Concat(mixed, []string{"UNSEEN"}), view(), true)
	refuse(t, slices.Concat(mixed, []string{"NOT", "UNSEEN"}))
	// Each of both keys of an OR at level 15 stands 16 levels deep, so none of them may contain another one.
	inner := append(nested(14), "OR")
	expect(t, slices.Concat(inner, []string{"SEEN", "UNSEEN"}), view(), true)
	refuse(t, slices.Concat(inner, []string{"NOT", "SEEN", "UNSEEN"}))
	refuse(t, slices.Concat(inner, []string{"SEEN", "NOT", "UNSEEN"}))
	// Each key of the query starts at the first level again, also behind one that is as deep as can be.
	expect(t, slices.Concat(nested(15, "SEEN"), nested(15, "SEEN"), nested(14, "UNSEEN")), view(), true)
	refuse(t, slices.Concat([]string{"ALL"}, nested(15, "SEEN"), nested(16, "UNSEEN")))
	refuse(t, slices.Concat(nested(16, "UNSEEN"), []string{"ALL"}))
}

func TestP20_2(t *testing.T) {
	keys := []string{"SEEN", "3", "4:*", "UID 30", "SUBJECT hello", "LARGER 50", "NEW", "NOT RECENT", "OR SEEN DELETED", "BODY zz", "DRAFT"}
	for flags := range 64 {
		v := flagged(flags)
		holds := func(s string) bool {
			q, errno := query.Parse(words(s))
			if errno != api.OK {
				t.Fatalf("Parse(%q) = %d", s, errno)
			}
			return query.Holds(q, v)
		}
		for _, a := range keys {
			if holds("NOT "+a) == holds(a) {
				t.Errorf("NOT %s is %s", a, a)
			}
			for _, b := range keys {
				if holds("OR "+a+" "+b) != (holds(a) || holds(b)) {
					t.Errorf("OR %s %s with flags %d", a, b, flags)
				}
				if holds(a+" "+b) != (holds(a) && holds(b)) {
					t.Errorf("%s %s with flags %d", a, b, flags)
				}
			}
		}
	}
}

// A query is a value: two of them do not meet, and one can be used again.
func TestP20_1Again(t *testing.T) {
	one, _ := query.Parse(words("SEEN"))
	two, _ := query.Parse(words("NOT SEEN"))
	for range 3 {
		if query.Holds(one, view()) || !query.Holds(two, view()) || !query.Holds(one, flagged(1)) || query.Holds(two, flagged(1)) {
			t.Error("a query changes")
		}
	}
	query.Holds(query.Query{}, view())
}
