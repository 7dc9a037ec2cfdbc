package imap

import (
	"mailsack/api"
	"mailsack/span"
	"mailsack/verb"
)

// arguments is the tokens of a command that were not read yet; wrong is true once one was not as expected.
type arguments struct {
	rest  []verb.Token
	wrong bool
}

// complete reports whether all arguments were read, and all were as expected.
func (a *arguments) complete() bool {
	return !a.wrong && len(a.rest) == 0
}

// next takes a token, if it is one of these kinds.
func (a *arguments) next(kinds ...int) string {
	if !a.at(kinds...) {
		a.wrong = true
		return ""
	}
	text := a.rest[0].Text
	a.rest = a.rest[1:]
	return text
}

// at reports whether the next token is one of these kinds.
func (a *arguments) at(kinds ...int) bool {
	if len(a.rest) == 0 {
		return false
	}
	for _, kind := range kinds {
		if a.rest[0].Kind == kind {
			return true
		}
	}
	return false
}

// text takes a word or a text.
func (a *arguments) text() string {
	return a.next(verb.Word, verb.Text)
}

// box takes the name of a mailbox.
func (a *arguments) box() string {
	name := a.text()
	if verb.Upper(name) == inbox {
		return inbox
	}
	return name
}

// texts takes all the words and texts that are left.
func (a *arguments) texts() []string {
	var l []string
	for len(a.rest) > 0 && !a.wrong {
		l = append(l, a.text())
	}
	return l
}

// list takes words in parentheses.
func (a *arguments) list() []string {
	a.next(verb.Open)
	var l []string
	for a.at(verb.Word) {
		l = append(l, a.next(verb.Word))
	}
	a.next(verb.Close)
	return l
}

// flags takes flags in parentheses.
func (a *arguments) flags() int {
	flags, ok := FlagsOf(a.list())
	if !ok {
		a.wrong = true
	}
	return flags
}

// set takes a set of numbers.
func (a *arguments) set() []span.Range {
	set, errno := span.Parse(a.text())
	if errno != api.OK {
		a.wrong = true
	}
	return set
}
