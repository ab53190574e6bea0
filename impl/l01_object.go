package impl

import (
	"maps"
	"slices"
	"strings"
)

const (
	MaxObjects = 300
	MaxData    = 600
	MaxKey     = 30

	// A store whose Next is maxNext is right, but has no version left for a put.
	maxNext = 1000000000
)

type Object struct {
	Key  string
	Ver  int
	Data string
}

type Store struct {
	Objects []Object
	Next    int
}

// shelf is a right store opened for one call. It has memory of its own, so that
// a call may change it without touching the store it was handed.
type shelf struct {
	objects map[string]Object
	next    int
}

// NewStore is a store without objects.
func NewStore() Store { return Store{Next: 1} }

// StoreOK reports whether s is a store.
func StoreOK(s Store) bool { return s.right() }

// KeyOK reports whether key is a key.
func KeyOK(key string) bool {
	if len(key) < 1 || len(key) > MaxKey {
		return false
	}
	for i := range len(key) {
		b := key[i]
		if !(b >= 'a' && b <= 'z') && !isDigit(b) && b != '/' && b != '-' {
			return false
		}
	}
	return true
}

// GetObject answers the data and the version of an object, and a code.
func GetObject(s Store, key string) (string, int, int) {
	if code := s.fault(key); code != OK {
		return "", 0, code
	}
	o, there := s.open().objects[key]
	if !there {
		return "", 0, ErrNone
	}
	return o.Data, o.Ver, OK
}

// PutAbsent puts an object under a new key, and answers the store, the version and a code.
func PutAbsent(s Store, key, data string) (Store, int, int) {
	if code := s.fault(key, data); code != OK {
		return Store{}, 0, code
	}
	h := s.open()
	if _, there := h.objects[key]; there {
		return h.close(), 0, ErrThere
	}
	ver, code := h.put(key, data)
	return h.close(), ver, code
}

// PutVersion puts an object in place of its version ver, and answers the store, the new version and a code.
func PutVersion(s Store, key string, ver int, data string) (Store, int, int) {
	if code := s.fault(key, data); code != OK {
		return Store{}, 0, code
	}
	h := s.open()
	if code := h.versionFault(key, ver); code != OK {
		return h.close(), 0, code
	}
	put, code := h.put(key, data)
	return h.close(), put, code
}

// DeleteVersion takes an object of version ver away, and answers the store and a code.
func DeleteVersion(s Store, key string, ver int) (Store, int) {
	if code := s.fault(key); code != OK {
		return Store{}, code
	}
	h := s.open()
	if code := h.versionFault(key, ver); code != OK {
		return h.close(), code
	}
	delete(h.objects, key)
	return h.close(), OK
}

// ListKeys answers the first n keys that begin with prefix and are behind after, and a code.
func ListKeys(s Store, prefix, after string, n int) ([]string, int) {
	switch {
	case anyTooLong(prefix, after):
		return nil, ErrLong
	case !s.right():
		return nil, ErrBad
	case n < 0 || n > MaxObjects:
		return nil, ErrRange
	}
	var keys []string
	for _, o := range s.Objects {
		if len(keys) == n {
			break
		}
		if o.Key > after && strings.HasPrefix(o.Key, prefix) {
			keys = append(keys, o.Key)
		}
	}
	return keys, OK
}

// SameStore reports whether all of a and b is alike, whether they are right or not.
func SameStore(a, b Store) bool {
	return a.Next == b.Next && slices.Equal(a.Objects, b.Objects)
}

func (s Store) right() bool {
	if s.Next < 1 || s.Next > maxNext || len(s.Objects) > MaxObjects {
		return false
	}
	taken := make(map[int]bool, len(s.Objects))
	for i, o := range s.Objects {
		if !o.right(s.Next) || taken[o.Ver] {
			return false
		}
		if i > 0 && s.Objects[i-1].Key >= o.Key {
			return false
		}
		taken[o.Ver] = true
	}
	return true
}

func (o Object) right(next int) bool {
	return KeyOK(o.Key) && o.Ver >= 1 && o.Ver < next && len(o.Data) <= MaxData
}

// fault finds what a call on a key looks for ahead of its own codes; texts are
// those that it was handed beside the key.
func (s Store) fault(key string, texts ...string) int {
	switch {
	case anyTooLong(key) || anyTooLong(texts...):
		return ErrLong
	case !s.right():
		return ErrBad
	case !KeyOK(key):
		return ErrKey
	}
	return OK
}

func (s Store) open() *shelf {
	h := &shelf{objects: make(map[string]Object, len(s.Objects)), next: s.Next}
	for _, o := range s.Objects {
		h.objects[o.Key] = o
	}
	return h
}

// close sorts, because a map has no order of its own.
func (h *shelf) close() Store {
	s := Store{Next: h.next}
	for _, key := range slices.Sorted(maps.Keys(h.objects)) {
		s.Objects = append(s.Objects, h.objects[key])
	}
	return s
}

// copied is the store as it was, in memory of its own.
func (s Store) copied() Store { return s.open().close() }

func (h *shelf) versionFault(key string, ver int) int {
	o, there := h.objects[key]
	switch {
	case !there:
		return ErrNone
	case o.Ver != ver:
		return ErrVersion
	}
	return OK
}

// put writes an object over whatever has its key. With a code the shelf stays as it was.
func (h *shelf) put(key, data string) (int, int) {
	_, there := h.objects[key]
	switch {
	case len(data) > MaxData:
		return 0, ErrSize
	case !there && len(h.objects) >= MaxObjects:
		return 0, ErrFull
	case h.next >= maxNext:
		return 0, ErrFull
	}
	ver := h.next
	h.objects[key] = Object{Key: key, Ver: ver, Data: data}
	h.next++
	return ver, OK
}
