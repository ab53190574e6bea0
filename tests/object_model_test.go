package tests

import (
	"fmt"
	"math/rand"
	"slices"
	"sort"
	"strings"
	"testing"

	"loop.example/g00601/impl"
)

// plain is a store as the document tells it, as plainly as can be: what each call must answer is worked out from it.
type plain struct {
	data map[string]string
	ver  map[string]int
	next int
}

func (p *plain) keys() []string {
	var keys []string
	for key := range p.ver {
		keys = append(keys, key)
	}
	sort.Strings(keys)
	return keys
}

func (p *plain) store() impl.Store {
	s := impl.Store{Next: p.next}
	for _, key := range p.keys() {
		s.Objects = append(s.Objects, impl.Object{Key: key, Ver: p.ver[key], Data: p.data[key]})
	}
	return s
}

func (p *plain) write(key, data string) (int, int) {
	if len(data) > 600 {
		return 0, impl.ErrSize
	}
	if p.ver[key] == 0 && len(p.ver) == 300 || p.next == lastNext {
		return 0, impl.ErrFull
	}
	p.ver[key], p.data[key] = p.next, data
	p.next++
	return p.ver[key], impl.OK
}

func (p *plain) putAbsent(key, data string) (int, int) {
	if p.ver[key] != 0 {
		return 0, impl.ErrThere
	}
	return p.write(key, data)
}

func (p *plain) check(key string, ver int) int {
	if p.ver[key] == 0 {
		return impl.ErrNone
	}
	if p.ver[key] != ver {
		return impl.ErrVersion
	}
	return impl.OK
}

func (p *plain) putVersion(key string, ver int, data string) (int, int) {
	if code := p.check(key, ver); code != impl.OK {
		return 0, code
	}
	return p.write(key, data)
}

func (p *plain) deleteVersion(key string, ver int) int {
	code := p.check(key, ver)
	if code == impl.OK {
		delete(p.ver, key)
		delete(p.data, key)
	}
	return code
}

func (p *plain) list(prefix, after string, n int) []string {
	var out []string
	for _, key := range p.keys() {
		if strings.HasPrefix(key, prefix) && key > after && len(out) < n {
			out = append(out, key)
		}
	}
	return out
}

// walk does one random change to both, and answers what it was and whether they answered alike.
func walk(r *rand.Rand, p *plain, s *impl.Store, keys int) (string, bool) {
	key := fmt.Sprintf("k%c%d", "/-"[r.Intn(2)], r.Intn(keys))
	ver := p.ver[key]
	if r.Intn(4) == 0 {
		ver += r.Intn(5) - 2
	}
	data := text(r.Intn(20))
	if r.Intn(20) == 0 {
		data = text(599 + r.Intn(4))
	}
	var v, code, wantV, want int
	what := fmt.Sprintf("%q version %d, %d bytes", key, ver, len(data))
	switch r.Intn(5) {
	case 0, 1:
		what = "PutAbsent " + what
		*s, v, code = impl.PutAbsent(*s, key, data)
		wantV, want = p.putAbsent(key, data)
	case 2, 3:
		what = "PutVersion " + what
		*s, v, code = impl.PutVersion(*s, key, ver, data)
		wantV, want = p.putVersion(key, ver, data)
	default:
		what = "DeleteVersion " + what
		*s, code = impl.DeleteVersion(*s, key, ver)
		want = p.deleteVersion(key, ver)
	}
	return what, v == wantV && code == want
}

func TestP2LongRunsAgreeWithThePlainStore(t *testing.T) {
	for seed, keys := range []int{1, 3, 20, 200, 2000, 20000} {
		r := rand.New(rand.NewSource(int64(seed)))
		p := &plain{data: map[string]string{}, ver: map[string]int{}, next: 1}
		s := impl.NewStore()
		for step := range 2000 {
			if step == 1900 {
				p.next, s.Next = lastNext-20, lastNext-20
			}
			what, ok := walk(r, p, &s, keys)
			if !ok || !alike(s, p.store()) || !impl.StoreOK(s) {
				t.Fatalf("seed %d step %d: %s", seed, step, what)
			}
			after, n := fmt.Sprintf("k/%d", r.Intn(keys)), r.Intn(impl.MaxObjects+1)
			if got, code := impl.ListKeys(s, "k/", after, n); code != impl.OK || !slices.Equal(got, p.list("k/", after, n)) {
				t.Fatalf("seed %d step %d: ListKeys behind %q by %d = %v, %d", seed, step, after, n, got, code)
			}
		}
		for _, key := range p.keys() {
			if d, v, code := impl.GetObject(s, key); d != p.data[key] || v != p.ver[key] || code != impl.OK {
				t.Errorf("seed %d: GetObject(%q) = %q, %d, %d", seed, key, d, v, code)
			}
		}
	}
}
