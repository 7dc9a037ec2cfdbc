package imap

import (
	"strconv"
	"strings"

	"mailsack/api"
	"mailsack/index"
	"mailsack/part"
	"mailsack/query"
	"mailsack/span"
	"mailsack/vault"
	"mailsack/verb"
)

// message is one of the selected mailbox, with its position from 1 on.
type message struct {
	index.Mail
	position int
	text     string
}

// item prints a part of a message.
type item func(m message) string

func (k *call) append() result {
	name, flags := k.args.box(), 0
	if k.args.at(verb.Open) {
		flags = k.args.flags()
	}
	text := k.args.text()
	if !k.args.complete() {
		return bad
	}
	if _, ok := k.find(name); !ok {
		return no
	}
	d, number, errno := vault.Deliver(k.disk, k.state.Session.User, k.drawn.Once, text)
	if errno != api.OK {
		return no
	}
	s, d, _, errno := vault.Place(d, k.state.Session, name, number, flags, k.drawn.Nonce)
	if errno != api.OK {
		return no
	}
	k.state.Session, k.disk = s, d
	return done
}

func (k *call) close() result {
	if !k.args.complete() {
		return bad
	}
	if !k.state.Only {
		if _, r := k.removeDeleted(); r != done {
			return r
		}
	}
	k.state.Box, k.state.Only = "", false
	return done
}

func (k *call) expunge() result {
	if !k.args.complete() {
		return bad
	}
	positions, r := k.removeDeleted()
	for i, position := range positions {
		// Each message that was removed before this one moved it down by one.
		k.tell(strconv.Itoa(position-i) + " EXPUNGE")
	}
	return r
}

// removeDeleted removes the messages with the flag Deleted, and returns the positions that they had.
func (k *call) removeDeleted() ([]int, result) {
	box, ok := k.selected()
	if !ok {
		return nil, no
	}
	x := k.state.Session.Index
	var positions []int
	for i, m := range box.Mails {
		if m.Flags&api.Deleted == 0 {
			continue
		}
		y, errno := index.Expunge(x, box.Name, m.UID)
		if errno != api.OK {
			return nil, no
		}
		x = y
		positions = append(positions, i+1)
	}
	if len(positions) == 0 {
		return nil, done
	}
	return positions, k.save(x)
}

func (k *call) search() result {
	q, errno := query.Parse(k.args.texts())
	if errno != api.OK || !k.args.complete() {
		return bad
	}
	box, ok := k.selected()
	if !ok {
		return no
	}
	all, ok := k.open(messagesOf(box))
	if !ok {
		return no
	}
	line := "SEARCH"
	for _, m := range all {
		v := query.View{Seq: m.position, UID: m.UID, Flags: m.Flags, Size: m.Size, Text: m.text, Seqs: len(all), UIDs: all[len(all)-1].UID}
		if query.Holds(q, v) {
			line += " " + strconv.Itoa(k.number(m))
		}
	}
	k.tell(line)
	return done
}

func (k *call) fetch() result {
	set := k.args.set()
	var names []string
	if k.args.at(verb.Open) {
		names = k.args.list()
	} else {
		names = []string{k.args.next(verb.Word)}
	}
	if !k.args.complete() {
		return bad
	}
	items, marks, ok := itemsOf(names)
	if !ok {
		return bad
	}
	chosen, ok := k.chosen(set)
	if !ok {
		return no
	}
	if chosen, ok = k.open(chosen); !ok {
		return no
	}
	if marks && !k.state.Only {
		var r result
		chosen, r = k.flag(chosen, func(flags int) int { return flags | api.Seen })
		if r != done {
			return r
		}
	}
	k.tellFetched(chosen, items)
	return done
}

func (k *call) store() result {
	set, how, flags := k.args.set(), verb.Upper(k.args.text()), k.args.flags()
	how, silent := strings.CutSuffix(how, ".SILENT")
	change := changeOf(how, flags)
	if !k.args.complete() || change == nil {
		return bad
	}
	chosen, ok := k.chosen(set)
	if !ok {
		return no
	}
	chosen, r := k.flag(chosen, change)
	if r == done && !silent {
		k.tellFetched(chosen, []item{printFlags})
	}
	return r
}

// changeOf returns what STORE does with the flags of a message, nil if there is no such way.
func changeOf(how string, flags int) func(old int) int {
	switch how {
	case "FLAGS":
		return func(old int) int { return flags | old&api.Recent }
	case "+FLAGS":
		return func(old int) int { return old | flags }
	case "-FLAGS":
		return func(old int) int { return old &^ flags }
	}
	return nil
}

func (k *call) copy() result {
	set, to := k.args.set(), k.args.box()
	if !k.args.complete() {
		return bad
	}
	chosen, ok := k.chosen(set)
	if !ok {
		return no
	}
	x := k.state.Session.Index
	for _, m := range chosen {
		y, _, errno := index.Copy(x, k.state.Box, m.UID, to)
		if errno != api.OK {
			return no
		}
		x = y
	}
	if len(chosen) == 0 {
		return done
	}
	return k.save(x)
}

// uid performs a command with UIDs in place of positions.
func (k *call) uid() result {
	name := verb.Upper(k.args.next(verb.Word))
	switch name {
	case "FETCH", "STORE", "COPY", "SEARCH":
		k.byUID = true
		return k.run(name)
	}
	return bad
}

// number returns the number by which the client knows a message.
func (k *call) number(m message) int {
	if k.byUID {
		return m.UID
	}
	return m.position
}

// chosen returns the messages of a set.
func (k *call) chosen(set []span.Range) ([]message, bool) {
	box, ok := k.selected()
	if !ok {
		return nil, false
	}
	all := messagesOf(box)
	var chosen []message
	for _, m := range all {
		if span.Has(set, k.number(m), k.number(all[len(all)-1])) {
			chosen = append(chosen, m)
		}
	}
	return chosen, true
}

// open returns the messages with their texts, and whether all of them can be opened.
func (k *call) open(l []message) ([]message, bool) {
	var opened []message
	for _, m := range l {
		text, errno := vault.Text(k.disk, k.state.Session, m.Object)
		if errno != api.OK {
			return nil, false
		}
		m.text = text
		opened = append(opened, m)
	}
	return opened, true
}

// flag changes the flags of messages and returns them as they are then.
func (k *call) flag(l []message, change func(flags int) int) ([]message, result) {
	x := k.state.Session.Index
	changed := false
	var after []message
	for _, m := range l {
		flags := change(m.Flags)
		if flags != m.Flags {
			y, errno := index.Flag(x, k.state.Box, m.UID, flags)
			if errno != api.OK {
				return nil, no
			}
			x, changed = y, true
		}
		m.Flags = flags
		after = append(after, m)
	}
	if !changed {
		return after, done
	}
	return after, k.save(x)
}

// tellFetched tells the items of messages.
func (k *call) tellFetched(l []message, items []item) {
	for _, m := range l {
		var parts []string
		if k.byUID {
			parts = append(parts, printUID(m))
		}
		for _, p := range items {
			parts = append(parts, p(m))
		}
		k.tell(strconv.Itoa(m.position) + " FETCH (" + strings.Join(parts, " ") + ")")
	}
}

func messagesOf(box index.Box) []message {
	var l []message
	for i, m := range box.Mails {
		l = append(l, message{Mail: m, position: i + 1})
	}
	return l
}

// itemsOf returns what prints the items with these names, and whether one of them marks messages as seen.
func itemsOf(names []string) ([]item, bool, bool) {
	known := map[string]item{
		"FLAGS":        printFlags,
		"UID":          printUID,
		"RFC822.SIZE":  func(m message) string { return "RFC822.SIZE " + strconv.Itoa(m.Size) },
		"BODY[]":       body("BODY[]", whole),
		"BODY.PEEK[]":  body("BODY[]", whole),
		"BODY[HEADER]": body("BODY[HEADER]", header),
		"BODY[TEXT]":   body("BODY[TEXT]", behindHeader),
	}
	var items []item
	marks := false
	for _, name := range names {
		upper := verb.Upper(name)
		p, ok := known[upper]
		if !ok {
			return nil, false, false
		}
		items = append(items, p)
		marks = marks || strings.HasPrefix(upper, "BODY[")
	}
	return items, marks, true
}

func printFlags(m message) string {
	return "FLAGS (" + Flags(m.Flags) + ")"
}

func printUID(m message) string {
	return "UID " + strconv.Itoa(m.UID)
}

// body returns the item that prints a part of the text as a literal.
func body(name string, of func(text string) string) item {
	return func(m message) string {
		s := of(m.text)
		return name + " {" + strconv.Itoa(len(s)) + "}" + ending + s
	}
}

func whole(text string) string {
	return text
}

func header(text string) string {
	head, _ := part.Split(text)
	return head
}

func behindHeader(text string) string {
	_, rest := part.Split(text)
	return rest
}
