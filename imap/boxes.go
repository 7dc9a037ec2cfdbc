package imap

import (
	"strconv"
	"strings"

	"mailsack/api"
	"mailsack/index"
	"mailsack/vault"
	"mailsack/verb"
)

func (k *call) capability() result {
	if !k.args.complete() {
		return bad
	}
	k.tell("CAPABILITY IMAP4rev1")
	return done
}

func (k *call) noop() result {
	if !k.args.complete() {
		return bad
	}
	return done
}

func (k *call) logout() result {
	if !k.args.complete() {
		return bad
	}
	k.tell("BYE")
	k.state.Gone = true
	return done
}

func (k *call) login() result {
	user, password := k.args.text(), k.args.text()
	if !k.args.complete() {
		return bad
	}
	s, d, errno := vault.Login(k.disk, user, password, k.drawn.Nonce)
	if errno != api.OK {
		return no
	}
	k.state.Session, k.disk = s, d
	return done
}

func (k *call) selectBox() result {
	return k.enter(false)
}

func (k *call) examine() result {
	return k.enter(true)
}

// enter selects a mailbox.
func (k *call) enter(only bool) result {
	name := k.args.box()
	if !k.args.complete() {
		return bad
	}
	box, ok := k.find(name)
	if !ok {
		return no
	}
	k.state.Box, k.state.Only = name, only
	k.tell(strconv.Itoa(len(box.Mails)) + " EXISTS")
	k.tell(strconv.Itoa(count(box, recent)) + " RECENT")
	k.tell("OK [UIDVALIDITY " + strconv.Itoa(box.Validity) + "]")
	k.tell("OK [UIDNEXT " + strconv.Itoa(box.Next) + "]")
	return done
}

func (k *call) create() result {
	return k.rewrite(index.Create)
}

func (k *call) delete() result {
	return k.rewrite(func(x index.Index, name string) (index.Index, api.Errno) {
		if name == k.state.Box {
			return index.Index{}, api.ErrArg
		}
		return index.Delete(x, name)
	})
}

func (k *call) subscribe() result {
	return k.rewrite(func(x index.Index, name string) (index.Index, api.Errno) {
		return index.Subscribe(x, name, true)
	})
}

func (k *call) unsubscribe() result {
	return k.rewrite(func(x index.Index, name string) (index.Index, api.Errno) {
		return index.Subscribe(x, name, false)
	})
}

// rewrite saves the index that a function of one mailbox returns.
func (k *call) rewrite(change func(x index.Index, name string) (index.Index, api.Errno)) result {
	name := k.args.box()
	if !k.args.complete() {
		return bad
	}
	x, errno := change(k.state.Session.Index, name)
	if errno != api.OK {
		return no
	}
	return k.save(x)
}

func (k *call) rename() result {
	from, to := k.args.box(), k.args.box()
	if !k.args.complete() {
		return bad
	}
	if from == k.state.Box {
		return no
	}
	x, errno := index.Rename(k.state.Session.Index, from, to)
	if errno != api.OK {
		return no
	}
	return k.save(x)
}

func (k *call) list() result {
	var names []string
	for _, b := range k.state.Session.Index.Boxes {
		names = append(names, b.Name)
	}
	return k.tellNames("LIST", names)
}

func (k *call) lsub() result {
	return k.tellNames("LSUB", k.state.Session.Index.Subs)
}

// tellNames tells those of the names that the client asks for.
func (k *call) tellNames(kind string, names []string) result {
	k.args.text()
	wanted := k.args.box()
	if !k.args.complete() {
		return bad
	}
	for _, name := range names {
		if wanted == "*" || wanted == name {
			k.tell(kind + ` () "/" ` + verb.Quote(name))
		}
	}
	return done
}

func (k *call) status() result {
	name, wanted := k.args.box(), k.args.list()
	if !k.args.complete() {
		return bad
	}
	asked := [statusItems]bool{}
	for _, word := range wanted {
		item := statusItem(verb.Upper(word))
		if item == statusItems {
			return bad
		}
		asked[item] = true
	}
	box, ok := k.find(name)
	if !ok {
		return no
	}
	var parts []string
	for item := range statusItems {
		if asked[item] {
			parts = append(parts, statusName(item)+" "+strconv.Itoa(statusNumber(box, item)))
		}
	}
	k.tell("STATUS " + verb.Quote(name) + " (" + strings.Join(parts, " ") + ")")
	return done
}

// statusItems is how many items of STATUS there are.
const statusItems = 5

func statusName(item int) string {
	return [statusItems]string{"MESSAGES", "RECENT", "UIDNEXT", "UIDVALIDITY", "UNSEEN"}[item]
}

// statusItem returns the item with this name, statusItems if there is none.
func statusItem(name string) int {
	for item := range statusItems {
		if statusName(item) == name {
			return item
		}
	}
	return statusItems
}

func statusNumber(box index.Box, item int) int {
	switch statusName(item) {
	case "MESSAGES":
		return len(box.Mails)
	case "RECENT":
		return count(box, recent)
	case "UIDNEXT":
		return box.Next
	case "UIDVALIDITY":
		return box.Validity
	}
	return count(box, unseen)
}

func recent(m index.Mail) bool {
	return m.Flags&api.Recent != 0
}

func unseen(m index.Mail) bool {
	return m.Flags&api.Seen == 0
}

func count(box index.Box, holds func(m index.Mail) bool) int {
	n := 0
	for _, m := range box.Mails {
		if holds(m) {
			n++
		}
	}
	return n
}

func (k *call) changePassword() result {
	old, password := k.args.text(), k.args.text()
	if !k.args.complete() {
		return bad
	}
	d, errno := vault.Change(k.disk, k.state.Session.User, old, password, k.drawn.Fresh)
	if errno != api.OK {
		return no
	}
	k.disk = d
	return done
}

func (k *call) rotate() result {
	password := k.args.text()
	if !k.args.complete() {
		return bad
	}
	s, d, errno := vault.Rotate(k.disk, k.state.Session, password, k.drawn.Fresh)
	if errno != api.OK {
		return no
	}
	k.state.Session, k.disk = s, d
	return done
}

func (k *call) step() result {
	if !k.args.complete() {
		return bad
	}
	s, d, last, errno := vault.Step(k.disk, k.state.Session, k.drawn.Once)
	if errno != api.OK {
		return no
	}
	k.state.Session, k.disk = s, d
	if last {
		k.tell("DONE")
	}
	return done
}
