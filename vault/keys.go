package vault

import (
	"mailsack/api"
	"mailsack/disk"
	"mailsack/ladder"
	"mailsack/ring"
	"mailsack/seal"
	"mailsack/store"
)

// Change returns d with another password for a user.
func Change(d disk.Disk, user string, old string, password string, f ring.Fresh) (disk.Disk, api.Errno) {
	a, errno := Account(d, user)
	if errno != api.OK {
		return disk.Disk{}, errno
	}
	a, errno = ring.Change(a, old, password, f)
	if errno != api.OK {
		return disk.Disk{}, errno
	}
	return store.Apply(d, []store.Change{putAccount(a)})
}

// Rotate gives a user another private key. The texts stay under the previous one until Step has moved them.
func Rotate(d disk.Disk, s Session, password string, f ring.Fresh) (Session, disk.Disk, api.Errno) {
	a, errno := Account(d, s.User)
	if errno != api.OK {
		return Session{}, disk.Disk{}, errno
	}
	a, errno = ring.Rotate(a, password, f)
	if errno != api.OK {
		return Session{}, disk.Disk{}, errno
	}
	d, errno = store.Apply(d, []store.Change{
		putAccount(a),
		putIndex(s.User, f.Private, s.Index, f.Nonce),
	})
	if errno != api.OK {
		return Session{}, disk.Disk{}, errno
	}
	s.Private, s.Old, s.Epoch = f.Private, s.Private, a.Epoch
	return s, d, api.OK
}

// Step moves one text to the new key, or drops the previous key and returns true if there is none to move.
func Step(d disk.Disk, s Session, once string) (Session, disk.Disk, bool, api.Errno) {
	if s.Old == "" {
		return Session{}, disk.Disk{}, false, api.ErrNone
	}
	number, text := oldest(d, s)
	if number == 0 {
		return finish(d, s)
	}
	public, _ := ladder.Public(s.Private)
	mail, errno := putMail(s.User, number, s.Epoch, public, once, text)
	if errno != api.OK {
		return Session{}, disk.Disk{}, false, errno
	}
	d, errno = store.Apply(d, []store.Change{mail})
	if errno != api.OK {
		return Session{}, disk.Disk{}, false, errno
	}
	return s, d, false, api.OK
}

// oldest returns the number and the text of the first message under the previous key, 0 if there is none.
func oldest(d disk.Disk, s Session) (int, string) {
	for _, number := range Numbers(d, mailKind, s.User) {
		object, errno := store.Get(d, numberName(mailKind, s.User, number))
		if errno != api.OK || object == "" || object[0] == byte(s.Epoch) {
			continue
		}
		if text, errno := seal.Open(s.Old, object[1:]); errno == api.OK {
			return number, text
		}
	}
	return 0, ""
}

// finish ends a rotation.
func finish(d disk.Disk, s Session) (Session, disk.Disk, bool, api.Errno) {
	a, errno := Account(d, s.User)
	if errno != api.OK {
		return Session{}, disk.Disk{}, false, errno
	}
	d, errno = store.Apply(d, []store.Change{putAccount(ring.Finish(a))})
	if errno != api.OK {
		return Session{}, disk.Disk{}, false, errno
	}
	s.Old = ""
	return s, d, true, api.OK
}
