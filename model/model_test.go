package model_test

import (
	"math/rand"
	"slices"
	"strings"
	"testing"

	"silo/api"
	"silo/digest"
	"silo/manifest"
	. "silo/model"
)

func same(a, b api.State) bool {
	return slices.Equal(a.Things, b.Things) && slices.Equal(a.Tags, b.Tags) && slices.Equal(a.Sessions, b.Sessions) && a.Next == b.Next
}

// copied is a state of its own memory.
func copied(s api.State) api.State {
	return api.State{Things: slices.Clone(s.Things), Tags: slices.Clone(s.Tags), Sessions: slices.Clone(s.Sessions), Next: s.Next}
}

// manifested asks whether a state has a manifest of that digest.
func manifested(s api.State, d string) bool {
	return slices.ContainsFunc(s.Things, func(x api.Thing) bool { return x.Digest == d && x.Manifest })
}

// bytes is the bytes of a manifest that names blobs, and manifests.
func bytes(t *testing.T, blobs []string, subs []string) string {
	t.Helper()
	m, e := manifest.Sorted(api.Manifest{Kind: 1, Blobs: blobs, Subs: subs})
	b, f := manifest.Bytes(m)
	if e != api.OK || f != api.OK {
		t.Fatalf("manifest: %d, %d", e, f)
	}
	return b
}

// laid is a state of these texts; those that are manifests' bytes are manifests.
func laid(texts ...string) api.State {
	s := api.State{}
	for _, x := range texts {
		_, e := manifest.Take(x)
		s.Things = append(s.Things, api.Thing{Digest: digest.Of(x), Text: x, Manifest: e == api.OK})
	}
	slices.SortFunc(s.Things, func(a, b api.Thing) int { return strings.Compare(a.Digest, b.Digest) })
	return s
}

// row is an op, what it tells, and what it changes.
type row struct {
	o      api.Op
	r      api.Reply
	change func(*api.State)
}

// play does each op on the same state.
func play(t *testing.T, s api.State, rows []row) {
	t.Helper()
	if Check(s) != api.OK {
		t.Fatalf("the state may not be: %d", Check(s))
	}
	before := copied(s)
	for i, row := range rows {
		want := copied(s)
		if row.change != nil {
			row.change(&want)
		}
		x, r, e := Do(s, row.o)
		if !same(x, want) || r != row.r || e != api.OK {
			t.Errorf("row %d: %v, %d, state right: %v", i, r, e, same(x, want))
		}
		if Check(x) != api.OK {
			t.Errorf("row %d: what comes may not be", i)
		}
		if !same(s, before) {
			t.Fatalf("row %d: what was handed in has changed", i)
		}
	}
}

func err(e api.Errno) api.Reply {
	return api.Reply{Err: int(e)}
}

func TestSessions(t *testing.T) {
	full := strings.Repeat("x", 1990)
	s := laid("old")
	s.Sessions, s.Next = []api.Session{{ID: 2, Text: "ab"}, {ID: 5, Text: full}, {ID: 6}, {ID: 7, Text: "old"}}, 9
	play(t, s, []row{
		{api.Op{Kind: api.OpStart}, api.Reply{N: 9}, func(s *api.State) { s.Sessions, s.Next = append(s.Sessions, api.Session{ID: 9}), 10 }},
		{api.Op{Kind: api.OpAbort, ID: 2}, api.Reply{}, func(s *api.State) { s.Sessions = s.Sessions[1:] }},
		{api.Op{Kind: api.OpAbort, ID: 3}, err(api.ErrNone), nil},
		{api.Op{Kind: api.OpChunk, ID: 2, Text: "cd"}, api.Reply{N: 4}, func(s *api.State) { s.Sessions[0].Text = "abcd" }},
		{api.Op{Kind: api.OpChunk, ID: 5, Text: strings.Repeat("y", 10)}, api.Reply{N: 2000}, func(s *api.State) { s.Sessions[1].Text = full + strings.Repeat("y", 10) }},
		{api.Op{Kind: api.OpChunk, ID: 5, Text: strings.Repeat("y", 11)}, err(api.ErrLimit), nil},
		{api.Op{Kind: api.OpChunk, ID: 8, Text: "y"}, err(api.ErrNone), nil},
		{api.Op{Kind: api.OpChunk, ID: 6}, api.Reply{}, nil},
		{api.Op{Kind: api.OpFinish, ID: 2, Digest: digest.Of("ab")}, api.Reply{N: 2}, func(s *api.State) {
			s.Sessions = s.Sessions[1:]
			s.Things = laid("old", "ab").Things
		}},
		{api.Op{Kind: api.OpFinish, ID: 7, Digest: digest.Of("old")}, api.Reply{N: 3}, func(s *api.State) { s.Sessions = s.Sessions[:3] }},
		{api.Op{Kind: api.OpFinish, ID: 6, Digest: digest.Of("")}, api.Reply{}, func(s *api.State) {
			s.Sessions = slices.Delete(s.Sessions, 2, 3)
			s.Things = laid("old", "").Things
		}},
		{api.Op{Kind: api.OpFinish, ID: 2, Digest: digest.Of("abc")}, err(api.ErrBad), nil},
		{api.Op{Kind: api.OpFinish, ID: 2}, err(api.ErrBad), nil},
		{api.Op{Kind: api.OpFinish, ID: 9, Digest: digest.Of("ab")}, err(api.ErrNone), nil},
	})
	for range 4 {
		s.Sessions = append(s.Sessions, api.Session{ID: s.Next})
		s.Next++
	}
	play(t, s, []row{{api.Op{Kind: api.OpStart}, err(api.ErrLimit), nil}})
	play(t, api.State{Next: api.MaxGen}, []row{{api.Op{Kind: api.OpStart}, err(api.ErrLimit), nil}})
	play(t, api.State{Next: api.MaxGen - 1}, []row{{api.Op{Kind: api.OpStart}, api.Reply{N: api.MaxGen - 1}, func(s *api.State) {
		s.Sessions, s.Next = []api.Session{{ID: api.MaxGen - 1}}, api.MaxGen
	}}})
}

func TestReading(t *testing.T) {
	m := bytes(t, []string{digest.Of("hello")}, nil)
	s := laid("hello", m)
	s.Tags = []api.Tag{{Name: "a", Digest: digest.Of(m)}}
	d := digest.Of("hello")
	get := func(kind, n, m int) api.Op { return api.Op{Kind: kind, Digest: d, N: n, M: m} }
	play(t, s, []row{
		{get(api.OpGet, 9, 9), api.Reply{Text: "hello"}, nil}, {get(api.OpStat, 0, 0), api.Reply{N: 5}, nil},
		{get(api.OpRange, 0, 5), api.Reply{Text: "hello"}, nil}, {get(api.OpRange, 1, 2), api.Reply{Text: "el"}, nil}, {get(api.OpRange, 4, 1<<63-1), api.Reply{Text: "o"}, nil},
		{get(api.OpRange, 5, 3), api.Reply{}, nil}, {get(api.OpRange, 2, 0), api.Reply{}, nil},
		{get(api.OpRange, 6, 0), err(api.ErrForm), nil}, {get(api.OpRange, -1, 0), err(api.ErrForm), nil}, {get(api.OpRange, 0, -1), err(api.ErrForm), nil},
		{api.Op{Kind: api.OpGet, Digest: digest.Of(m)}, api.Reply{Text: m}, nil}, {api.Op{Kind: api.OpRange, Digest: digest.Of(m), N: 0, M: 4}, api.Reply{Text: "MANF"}, nil}, {api.Op{Kind: api.OpStat, Digest: digest.Of(m)}, api.Reply{N: 39}, nil},
		{api.Op{Kind: api.OpGet, Digest: "x"}, err(api.ErrNone), nil}, {api.Op{Kind: api.OpStat}, err(api.ErrNone), nil}, {api.Op{Kind: api.OpRange, N: -1}, err(api.ErrNone), nil},
		{api.Op{Kind: api.OpFind, Name: "a"}, api.Reply{Text: digest.Of(m)}, nil}, {api.Op{Kind: api.OpFind, Name: "b"}, err(api.ErrNone), nil}, {api.Op{Kind: api.OpFind, Name: "a:latest"}, err(api.ErrNone), nil},
	})
}

func TestManifestsAndTags(t *testing.T) {
	blob, other := digest.Of("blob"), digest.Of("other")
	sub := bytes(t, []string{blob}, nil)
	top := bytes(t, []string{blob}, []string{digest.Of(sub)})
	s := laid("blob", "other", sub)
	s.Tags = []api.Tag{{Name: "b", Digest: digest.Of(sub)}}
	wrong := bytes(t, []string{digest.Of(sub)}, nil)
	twisted := bytes(t, nil, []string{blob})
	missing := bytes(t, []string{digest.Of("missing")}, nil)
	play(t, s, []row{
		{api.Op{Kind: api.OpManifest, Text: top}, api.Reply{Text: digest.Of(top)}, func(s *api.State) { s.Things = laid("blob", "other", sub, top).Things }},
		{api.Op{Kind: api.OpManifest, Text: sub}, api.Reply{Text: digest.Of(sub)}, nil},
		{api.Op{Kind: api.OpManifest, Text: "MANF"}, err(api.ErrBad), nil}, {api.Op{Kind: api.OpManifest, Text: wrong}, err(api.ErrNone), nil},
		{api.Op{Kind: api.OpManifest, Text: twisted}, err(api.ErrNone), nil}, {api.Op{Kind: api.OpManifest, Text: missing}, err(api.ErrNone), nil},
		{api.Op{Kind: api.OpTag, Name: "a/x:1", Digest: digest.Of(sub)}, api.Reply{}, func(s *api.State) { s.Tags = slices.Insert(s.Tags, 0, api.Tag{Name: "a/x:1", Digest: digest.Of(sub)}) }},
		{api.Op{Kind: api.OpTag, Name: "b", Digest: digest.Of(sub)}, api.Reply{}, nil},
		{api.Op{Kind: api.OpTag, Name: "B", Digest: blob}, err(api.ErrBad), nil}, {api.Op{Kind: api.OpTag, Name: "c", Digest: blob}, err(api.ErrNone), nil}, {api.Op{Kind: api.OpTag, Name: "c", Digest: digest.Of(top)}, err(api.ErrNone), nil},
		{api.Op{Kind: api.OpUntag, Name: "b"}, api.Reply{}, func(s *api.State) { s.Tags = nil }}, {api.Op{Kind: api.OpUntag, Name: "c"}, err(api.ErrNone), nil},
		{api.Op{Kind: api.OpDelete, Digest: other}, api.Reply{}, func(s *api.State) { s.Things = laid("blob", sub).Things }},
		{api.Op{Kind: api.OpDelete, Digest: blob}, err(api.ErrUsed), nil}, {api.Op{Kind: api.OpDelete, Digest: digest.Of(sub)}, err(api.ErrUsed), nil}, {api.Op{Kind: api.OpDelete, Digest: digest.Of(top)}, err(api.ErrNone), nil},
		{api.Op{Kind: api.OpSweep}, api.Reply{N: 1}, func(s *api.State) { s.Things = laid("blob", sub).Things }},
	})
	// A manifest's bytes that came as a blob stay a blob.
	s = laid("blob", "other")
	s.Things = append(s.Things, api.Thing{Digest: digest.Of(sub), Text: sub})
	slices.SortFunc(s.Things, func(a, b api.Thing) int { return strings.Compare(a.Digest, b.Digest) })
	play(t, s, []row{
		{api.Op{Kind: api.OpManifest, Text: sub}, api.Reply{Text: digest.Of(sub)}, nil}, {api.Op{Kind: api.OpTag, Name: "c", Digest: digest.Of(sub)}, err(api.ErrNone), nil},
		{api.Op{Kind: api.OpSweep}, api.Reply{N: 3}, func(s *api.State) { s.Things = nil }},
	})
}

func TestLimits(t *testing.T) {
	texts := []string{}
	for i := range 59 {
		texts = append(texts, strings.Repeat("t", i))
	}
	empty := bytes(t, nil, nil)
	s := laid(append(texts, empty)...)
	for i := range 40 {
		s.Tags = append(s.Tags, api.Tag{Name: "t" + string([]byte{byte('0' + i/10), byte('0' + i%10)}), Digest: digest.Of(empty)})
	}
	s.Sessions, s.Next = []api.Session{{ID: 0, Text: "new"}, {ID: 1, Text: "t"}}, 2
	other, _ := manifest.Bytes(api.Manifest{Kind: 9})
	play(t, s, []row{
		{api.Op{Kind: api.OpFinish, ID: 0, Digest: digest.Of("new")}, err(api.ErrLimit), nil},
		{api.Op{Kind: api.OpFinish, ID: 1, Digest: digest.Of("t")}, api.Reply{N: 1}, func(s *api.State) { s.Sessions = s.Sessions[:1] }},
		{api.Op{Kind: api.OpManifest, Text: other}, err(api.ErrLimit), nil}, {api.Op{Kind: api.OpManifest, Text: empty}, api.Reply{Text: digest.Of(empty)}, nil},
		{api.Op{Kind: api.OpTag, Name: "u", Digest: digest.Of(empty)}, err(api.ErrLimit), nil}, {api.Op{Kind: api.OpTag, Name: "t07", Digest: digest.Of(empty)}, api.Reply{}, nil},
	})
}

func TestMisfits(t *testing.T) {
	m := bytes(t, []string{digest.Of("a")}, nil)
	good := func() api.State {
		s := laid("a", m)
		s.Tags = []api.Tag{{Name: "a", Digest: digest.Of(m)}, {Name: "b", Digest: digest.Of(m)}}
		s.Sessions, s.Next = []api.Session{{ID: 0}, {ID: 3}}, 4
		return s
	}
	if Check(good()) != api.OK || Check(api.State{}) != api.OK {
		t.Fatalf("good ones may be")
	}
	// A blob names nothing, also where its text is a manifest's.
	blob := laid(m)
	blob.Things[0].Manifest = false
	if Check(blob) != api.OK {
		t.Errorf("a blob with a manifest's bytes: %d", Check(blob))
	}
	for i, change := range []func(*api.State){
		func(s *api.State) { *s = laid("a", "b"); s.Things[0], s.Things[1] = s.Things[1], s.Things[0] }, func(s *api.State) { *s = laid("a"); s.Things = append(s.Things, s.Things[0]) },
		func(s *api.State) { *s = laid(strings.Repeat("x", 2001)) },
		func(s *api.State) { s.Things[0].Text += "x" }, func(s *api.State) { s.Things[0], s.Things[1] = s.Things[1], s.Things[0] }, func(s *api.State) { s.Things = laid(m).Things }, func(s *api.State) { s.Things = laid("a").Things },
		func(s *api.State) { *s = laid(bytes(t, nil, []string{digest.Of("a")}), "a") }, func(s *api.State) { *s = laid(m, bytes(t, []string{digest.Of(m)}, nil), "a") },
		func(s *api.State) { s.Tags[1].Name = "a" }, func(s *api.State) { s.Tags[0].Name = "c" }, func(s *api.State) { s.Tags[0].Name = "A" }, func(s *api.State) { s.Tags[0].Digest = digest.Of("a") }, func(s *api.State) { s.Tags[0].Digest = digest.Of("b") },
		func(s *api.State) { s.Next = 3 }, func(s *api.State) { s.Next = -1; s.Sessions = nil }, func(s *api.State) { s.Next = api.MaxGen + 1 }, func(s *api.State) { s.Sessions[0].ID = -1 }, func(s *api.State) { s.Sessions[0].ID = 3 },
		func(s *api.State) { s.Sessions[0].Text = strings.Repeat("x", 2001) }, func(s *api.State) {
			s.Next, s.Sessions = 9, make([]api.Session, 9)
			for i := range 9 {
				s.Sessions[i].ID = i
			}
		},
		func(s *api.State) {
			s.Tags = nil
			for i := range 41 {
				s.Tags = append(s.Tags, api.Tag{Name: "t" + string([]byte{byte('0' + i/10), byte('0' + i%10)}), Digest: digest.Of(m)})
			}
		},
	} {
		s := good()
		change(&s)
		x, r, e := Do(s, api.Op{Kind: api.OpStart})
		y, f := Opened(s)
		if Check(s) != api.ErrForm || e != api.ErrForm || f != api.ErrForm || !same(x, api.State{}) || !same(y, api.State{}) || r != (api.Reply{}) {
			t.Errorf("misfit %d: %d, %d, %d", i, Check(s), e, f)
		}
	}
	for _, kind := range []int{api.OpNone, -1, api.OpAbort + 1, 1 << 40} {
		if x, r, e := Do(good(), api.Op{Kind: kind}); !same(x, api.State{}) || r != (api.Reply{}) || e != api.ErrForm {
			t.Errorf("kind %d: %d", kind, e)
		}
	}
	x, e := Opened(good())
	want := good()
	want.Sessions, want.Next = nil, 0
	if !same(x, want) || e != api.OK {
		t.Errorf("opened: %d", e)
	}
}

// TestWhatComesMayBe does many ops, one behind the other.
func TestWhatComesMayBe(t *testing.T) {
	r := rand.New(rand.NewSource(43))
	s := api.State{}
	pick := func() string {
		if len(s.Things) == 0 || r.Intn(9) == 0 {
			return "none"
		}
		return s.Things[r.Intn(len(s.Things))].Digest
	}
	oks := map[int]int{}
	for range 3000 {
		o := api.Op{Kind: 1 + r.Intn(13), ID: s.Next - 1 - r.Intn(4), N: r.Intn(5), M: r.Intn(9), Name: []string{"a", "b/c", "d:1", "E"}[r.Intn(4)], Digest: pick(), Text: strings.Repeat("x", r.Intn(30))}
		if o.Kind == api.OpSweep && r.Intn(20) > 0 {
			continue
		}
		if o.Kind == api.OpFinish {
			for _, x := range s.Sessions {
				if x.ID == o.ID {
					o.Digest = digest.Of(x.Text)
				}
			}
		}
		if o.Kind == api.OpManifest {
			m, _ := manifest.Sorted(api.Manifest{Kind: r.Intn(3), Blobs: []string{digest.Of("xx")}})
			for range r.Intn(3) {
				if d := pick(); len(d) == 32 {
					if manifested(s, d) {
						m.Subs = append(m.Subs, d)
					} else {
						m.Blobs = append(m.Blobs, d)
					}
				}
			}
			m.Blobs = m.Blobs[r.Intn(2):]
			m, _ = manifest.Sorted(m)
			o.Text, _ = manifest.Bytes(m)
		}
		x, reply, e := Do(s, o)
		if e != api.OK || Check(x) != api.OK || reply.Err != 0 && (!same(x, s) || reply.N != 0 || reply.Text != "") {
			t.Fatalf("%v: %v, %d", o, reply, e)
		}
		if reply.Err == 0 {
			oks[o.Kind]++
		}
		if o.Kind == api.OpSweep {
			if y, again, _ := Do(x, o); again.N != 0 || !same(x, y) {
				t.Fatalf("sweep twice takes %d", again.N)
			}
		}
		s = x
	}
	for kind := api.OpStart; kind <= api.OpAbort; kind++ {
		if oks[kind] == 0 {
			t.Errorf("kind %d was never done: %v", kind, oks)
		}
	}
}
