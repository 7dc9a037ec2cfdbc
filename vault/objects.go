package vault

import (
	"slices"
	"strconv"
	"strings"

	"mailsack/aead"
	"mailsack/api"
	"mailsack/disk"
	"mailsack/index"
	"mailsack/ring"
	"mailsack/seal"
	"mailsack/store"
)

const (
	accountKind = "u"
	indexKind   = "x"
	mailKind    = "m"
	waitingKind = "q"
	inbox       = "INBOX"

	greatestNumber = 1<<32 - 1
)

// Numbers returns the numbers of a user's objects of one kind, in increasing order.
func Numbers(d disk.Disk, kind string, user string) []int {
	prefix := kind + "/" + user + "/"
	var numbers []int
	for _, name := range store.Names(d) {
		digits, ok := strings.CutPrefix(name, prefix)
		if !ok {
			continue
		}
		n, errno := strconv.Atoi(digits)
		// Atoi accepts signs and leading zeros too: the number must be printed as it was read.
		if errno == nil && rightNumber(n) && strconv.Itoa(n) == digits {
			numbers = append(numbers, n)
		}
	}
	slices.Sort(numbers)
	return numbers
}

func rightNumber(n int) bool {
	return n >= 1 && n <= greatestNumber
}

func accountName(user string) string {
	return accountKind + "/" + user
}

func indexName(user string) string {
	return indexKind + "/" + user
}

func numberName(kind string, user string, number int) string {
	return kind + "/" + user + "/" + strconv.Itoa(number)
}

func gone(name string) store.Change {
	return store.Change{Name: name, Gone: true}
}

// putAccount returns the change that stores a valid account.
func putAccount(a ring.Account) store.Change {
	s, _ := ring.Put(a)
	return store.Change{Name: accountName(a.User), Data: s}
}

// putIndex returns the change that stores an index, sealed; an invalid index has an empty encoding.
func putIndex(user string, private string, x index.Index, nonce string) store.Change {
	s, _ := index.Put(x)
	sealed, _ := aead.Seal(indexKey(private), nonce, user, s)
	return store.Change{Name: indexName(user), Data: nonce + sealed}
}

// putMail returns the change that stores a message, encrypted to a public key.
func putMail(user string, number int, epoch int, public string, once string, text string) (store.Change, api.Errno) {
	box, errno := seal.Box(public, once, text)
	if errno != api.OK {
		return store.Change{}, errno
	}
	return store.Change{
		Name: numberName(mailKind, user, number),
		Data: string([]byte{byte(epoch)}) + box,
	}, api.OK
}
