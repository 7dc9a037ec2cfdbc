package imap

import (
	"strings"

	"mailsack/api"
	"mailsack/verb"
)

const allFlags = api.Seen | api.Answered | api.Flagged | api.Deleted | api.Draft | api.Recent

// Flags returns the printed form of a sum of flags.
func Flags(n int) string {
	if n < 0 || n > allFlags {
		return ""
	}
	var words []string
	for flag := api.Seen; flag <= api.Recent; flag <<= 1 {
		if n&flag != 0 {
			words = append(words, flagName(flag))
		}
	}
	return strings.Join(words, " ")
}

// FlagsOf returns the sum of the flags that the words are.
func FlagsOf(l []string) (int, bool) {
	sum := 0
	for _, word := range l {
		flag := flagOf(word)
		if flag == 0 {
			return 0, false
		}
		sum |= flag
	}
	return sum, true
}

func flagName(flag int) string {
	switch flag {
	case api.Seen:
		return `\Seen`
	case api.Answered:
		return `\Answered`
	case api.Flagged:
		return `\Flagged`
	case api.Deleted:
		return `\Deleted`
	case api.Draft:
		return `\Draft`
	}
	return `\Recent`
}

// flagOf returns the flag that a word is, 0 if it is none that can be read.
func flagOf(word string) int {
	for flag := api.Seen; flag < api.Recent; flag <<= 1 {
		if verb.Upper(word) == verb.Upper(flagName(flag)) {
			return flag
		}
	}
	return 0
}
