package span_test

import (
	"math"
	"slices"
	"strings"
	"testing"

	"mailsack/api"
	"mailsack/span"
)

type ranges = []span.Range

func TestP14_1Parse(t *testing.T) {
	for s, want := range map[string]ranges{
		"1":                     {{1, 1}},
		"9":                     {{9, 9}},
		"*":                     {{0, 0}},
		"1,3:5,*":               {{1, 1}, {3, 5}, {0, 0}},
		"5:3":                   {{5, 3}},
		"*:4":                   {{0, 4}},
		"4:*":                   {{4, 0}},
		"*:*":                   {{0, 0}},
		"7:7":                   {{7, 7}},
		"4294967295":            {{4294967295, 4294967295}},
		"1000000000:4294967295": {{1000000000, 4294967295}},
		"10,20,10,*,*":          {{10, 10}, {20, 20}, {10, 10}, {0, 0}, {0, 0}},
		"2:4,3:5":               {{2, 4}, {3, 5}},
	} {
		if got, errno := span.Parse(s); errno != api.OK || !slices.Equal(got, want) {
			t.Errorf("Parse(%q) = %v, %d", s, got, errno)
		}
	}
}

func TestP14_1ParseErrors(t *testing.T) {
	for _, s := range []string{
		"", ",", ":", "1,", ",1", "1,,2", "0", "01", "1:0", "0:1", "1:01", "00", "4294967296", "9999999999", "10000000000",
		"12345678901", "1:4294967296", "a", "1a", "a1", " 1", "1 ", "1, 2", "1:", ":1", "1:2:3", "1::2", "**", "1*", "*1", "-1",
		"+1", "1-2", "1;2", "1:*:2", "1,3:5,*,", "1\x00", "\xff", "１", "18446744073709551617", strings.Repeat("1", 50), "1.5", "0x1", "*:", ":*",
	} {
		if got, errno := span.Parse(s); errno != api.ErrForm || len(got) != 0 {
			t.Errorf("Parse(%q) = %v, %d", s, got, errno)
		}
	}
}

func TestP14_1Has(t *testing.T) {
	for _, c := range []struct {
		l           ranges
		n, greatest int
		want        bool
	}{
		{nil, 1, 1, false},
		{ranges{{3, 5}}, 2, 9, false}, {ranges{{3, 5}}, 3, 9, true}, {ranges{{3, 5}}, 4, 9, true}, {ranges{{3, 5}}, 5, 9, true}, {ranges{{3, 5}}, 6, 9, false},
		{ranges{{5, 3}}, 2, 9, false}, {ranges{{5, 3}}, 3, 9, true}, {ranges{{5, 3}}, 4, 9, true}, {ranges{{5, 3}}, 5, 9, true}, {ranges{{5, 3}}, 6, 9, false},
		{ranges{{0, 0}}, 9, 9, true}, {ranges{{0, 0}}, 8, 9, false}, {ranges{{0, 0}}, 0, 9, false}, {ranges{{0, 0}}, 0, 0, true},
		{ranges{{7, 0}}, 8, 9, true}, {ranges{{7, 0}}, 9, 9, true}, {ranges{{7, 0}}, 10, 9, false}, {ranges{{7, 0}}, 6, 9, false},
		{ranges{{12, 0}}, 9, 9, true}, {ranges{{12, 0}}, 10, 9, true}, {ranges{{12, 0}}, 12, 9, true}, {ranges{{12, 0}}, 8, 9, false}, {ranges{{12, 0}}, 13, 9, false},
		{ranges{{0, 7}}, 8, 9, true}, {ranges{{0, 7}}, 6, 9, false},
		{ranges{{1, 1}, {4, 6}}, 5, 9, true}, {ranges{{1, 1}, {4, 6}}, 3, 9, false}, {ranges{{4, 6}, {1, 1}}, 1, 9, true},
		{ranges{{3, 5}}, 4, 0, true}, {ranges{{20, 20}}, 20, 9, true},
		{ranges{{-3, 5}}, -3, 9, true}, {ranges{{-3, 5}}, 0, 9, true}, {ranges{{-3, 5}}, -4, 9, false},
		{ranges{{0, 5}}, -2, -3, true}, {ranges{{math.MinInt, math.MaxInt}}, 0, 9, true}, {ranges{{math.MaxInt, 0}}, 1, math.MinInt, true},
	} {
		if got := span.Has(c.l, c.n, c.greatest); got != c.want {
			t.Errorf("Has(%v, %d, %d) = %v", c.l, c.n, c.greatest, got)
		}
	}
}

func TestP14_2Pick(t *testing.T) {
	numbers := []int{2, 3, 5, 8, 13}
	for _, c := range []struct {
		l       ranges
		numbers []int
		want    []int
	}{
		{ranges{{1, 1}}, numbers, nil}, {nil, numbers, nil}, {ranges{{1, 0}}, nil, nil}, {ranges{{0, 0}}, []int{}, nil},
		{ranges{{1, 0}}, numbers, numbers}, {ranges{{0, 0}}, numbers, []int{13}}, {ranges{{20, 0}}, numbers, []int{13}},
		{ranges{{3, 8}}, numbers, []int{3, 5, 8}}, {ranges{{8, 3}}, numbers, []int{3, 5, 8}},
		{ranges{{8, 8}, {2, 3}, {2, 2}}, numbers, []int{2, 3, 8}},
		{ranges{{0, 0}}, []int{9, 4, 6, 6}, []int{6, 6}}, {ranges{{5, 0}}, []int{9, 4, 7}, []int{7}}, {ranges{{4, 9}}, []int{9, 4, 7, 9}, []int{9, 4, 7, 9}},
	} {
		before := slices.Clone(c.numbers)
		if got := span.Pick(c.l, c.numbers); !slices.Equal(got, c.want) || !slices.Equal(before, c.numbers) {
			t.Errorf("Pick(%v, %v) = %v", c.l, c.numbers, got)
		}
	}
}

func TestP14_2Text(t *testing.T) {
	for _, c := range []struct {
		numbers []int
		want    string
	}{
		{nil, ""}, {[]int{5}, "5"}, {[]int{1, 2, 3, 7}, "1:3,7"}, {[]int{1, 2}, "1:2"}, {[]int{1, 3, 5}, "1,3,5"},
		{[]int{3, 2, 1}, "3,2,1"}, {[]int{1, 1}, "1,1"}, {[]int{1, 2, 2, 3}, "1:2,2:3"}, {[]int{4, 5, 6, 1, 2}, "4:6,1:2"},
		{[]int{0}, "0"}, {[]int{0, 1}, "0,1"}, {[]int{0, 1, 2}, "0,1:2"}, {[]int{-1, 0, 1, 2}, "-1,0,1:2"}, {[]int{-3, -2}, "-3,-2"},
		{[]int{4294967294, 4294967295, 4294967296}, "4294967294:4294967296"}, {[]int{9, 10, 11}, "9:11"},
		{[]int{math.MaxInt - 1, math.MaxInt}, "9223372036854775806:9223372036854775807"},
		{[]int{math.MinInt, math.MinInt + 1}, "-9223372036854775808,-9223372036854775807"},
	} {
		if got := span.Text(c.numbers); got != c.want {
			t.Errorf("Text(%v) = %q, want %q", c.numbers, got, c.want)
		}
	}
}

func TestP14_3TextAndParse(t *testing.T) {
	for choice := 1; choice < 1<<10; choice++ {
		var numbers []int
		for i := range 10 {
			if choice>>i&1 == 1 {
				numbers = append(numbers, i+1)
			}
		}
		text := span.Text(numbers)
		l, errno := span.Parse(text)
		if errno != api.OK {
			t.Fatalf("Parse(%q) = %d", text, errno)
		}
		var got []int
		for n := range 14 {
			if span.Has(l, n, 12) {
				got = append(got, n)
			}
		}
		if !slices.Equal(got, numbers) {
			t.Errorf("%v: Text = %q, which contains %v", numbers, text, got)
		}
		if strings.Count(text, ",") >= len(numbers) {
			t.Errorf("%v: Text = %q", numbers, text)
		}
	}
}
