package world_test

import (
	"math/rand"
	"slices"
	"strings"
	"testing"

	"silo/api"
	"silo/digest"
	"silo/manifest"
	"silo/model"
	. "silo/world"
)

func same(a, b api.State) bool {
	return slices.Equal(a.Things, b.Things) && slices.Equal(a.Tags, b.Tags) && slices.Equal(a.Sessions, b.Sessions) && a.Next == b.Next
}

func op(o api.Op) api.Act {
	return api.Act{Kind: api.ActOp, Op: o}
}

// upload is acts that bring a text by the session with an ID.
func upload(id int, text string) []api.Act {
	return []api.Act{
		op(api.Op{Kind: api.OpStart}), op(api.Op{Kind: api.OpChunk, ID: id, Text: text}), op(api.Op{Kind: api.OpFinish, ID: id, Digest: digest.Of(text)}),
	}
}

// none asks for a report that tells nothing.
func none(r api.Report) bool {
	return len(r.Replies) == 0 && len(r.States) == 0 && !r.Good && r.Used == 0
}

func TestExample(t *testing.T) {
	s := api.Shape{K: 2, M: 1, Size: 20}
	text := strings.Repeat("text", 20)
	l := append(upload(0, text), api.Act{Kind: api.ActCrash, N: 0, Op: api.Op{Kind: api.OpManifest, Text: "MANF\x00\x00\x00"}}, op(api.Op{Kind: api.OpGet, Digest: digest.Of(text)}))
	r, e := Run(5, s, 9, l)
	if e != api.OK || len(r.Replies) != 5 || len(r.States) != 5 || !r.Good || r.Used != 6 {
		t.Fatalf("%d: %d replies, %d states, %v, %d", e, len(r.Replies), len(r.States), r.Good, r.Used)
	}
	want := []api.Reply{{}, {N: 80}, {N: 80}, {Err: int(api.ErrOff)}, {Text: text}}
	if !slices.Equal(r.Replies, want) {
		t.Errorf("replies: %v", r.Replies)
	}
	things := []api.Thing{{Digest: digest.Of(text), Text: text}}
	for i, x := range []api.State{
		{Sessions: []api.Session{{ID: 0}}, Next: 1}, {Sessions: []api.Session{{ID: 0, Text: text}}, Next: 1}, {Things: things, Next: 1}, {Things: things}, {Things: things},
	} {
		if !same(r.States[i], x) {
			t.Errorf("state %d: %v", i, r.States[i])
		}
	}
}

func TestErrors(t *testing.T) {
	s := api.Shape{K: 2, M: 1, Size: 20}
	long := op(api.Op{Kind: api.OpChunk, Text: strings.Repeat("x", 10000)})
	rows := []struct {
		disks int
		s     api.Shape
		n     int
		l     []api.Act
		want  api.Errno
	}{
		{3, s, 9, make([]api.Act, 100), api.OK}, {3, s, 9, make([]api.Act, 101), api.ErrLimit}, {0, api.Shape{}, 0, make([]api.Act, 101), api.ErrLimit},
		{3, s, 9, []api.Act{long, long}, api.OK}, {3, s, 9, []api.Act{long, long, op(api.Op{Text: "x"})}, api.ErrLimit}, {3, s, 9, []api.Act{long, long, {Kind: api.ActLose, Op: api.Op{Text: "x"}}}, api.ErrLimit},
		{0, s, 9, nil, api.ErrForm}, {13, s, 9, nil, api.ErrForm}, {-1, s, 9, nil, api.ErrForm}, {3, api.Shape{}, 9, nil, api.ErrForm}, {3, s, 0, nil, api.ErrForm}, {3, s, 65, nil, api.ErrForm}, {3, s, -1 << 63, nil, api.ErrForm}, {3, s, 1 << 62, nil, api.ErrForm},
		{12, s, 64, nil, api.ErrForm}, {2, s, 9, nil, api.ErrFew}, {3, s, 64, nil, api.OK}, {1, api.Shape{K: 1, M: 0, Size: 120}, 64, nil, api.OK},
	}
	for i, row := range rows {
		r, e := Run(row.disks, row.s, row.n, row.l)
		if e != row.want || e != api.OK && !none(r) {
			t.Errorf("row %d: %d, not %d", i, e, row.want)
		}
		if e == api.OK && (len(r.Replies) != len(row.l) || len(r.States) != len(row.l) || !r.Good || r.Used != 0) {
			t.Errorf("row %d: %d replies, %d states, %v, %d", i, len(r.Replies), len(r.States), r.Good, r.Used)
		}
	}
}

func TestActs(t *testing.T) {
	s := api.Shape{K: 2, M: 2, Size: 20}
	text := strings.Repeat("text", 30) // three stripes, twelve pieces
	begin := upload(0, text)
	lose := []api.Act{{Kind: api.ActLose, Disk: 0}, {Kind: api.ActLose, Disk: 1}}
	flips := []api.Act{}
	for at := range 3 {
		flips = append(flips, api.Act{Kind: api.ActFlip, Disk: 0, N: 8 * 64 * (api.Area + at)})
	}
	rows := []struct {
		name string
		l    []api.Act
		good bool
		used int
	}{
		{"nothing", nil, true, 12},
		{"acts that are none", []api.Act{{}, {Kind: 7}, {Kind: -1}, {Kind: api.ActLose, Disk: 9}, {Kind: api.ActReplace, Disk: -1}, {Kind: api.ActFlip, Disk: 0, N: -1}, {Kind: api.ActCrash, N: -1, Op: api.Op{Kind: api.OpDelete, Digest: digest.Of(text)}}}, true, 12},
		{"two lost", lose, false, 8},
		{"two lost, mended", append(slices.Clone(lose), api.Act{Kind: api.ActStep, N: 40}), true, 12},
		{"two lost, too many steps", append(slices.Clone(lose), api.Act{Kind: api.ActStep, N: 2001}, api.Act{Kind: api.ActStep, N: -1}, api.Act{Kind: api.ActStep}), false, 8},
		{"two lost, many steps", append(slices.Clone(lose), api.Act{Kind: api.ActStep, N: 2000}), true, 12},
		{"two replaced", []api.Act{{Kind: api.ActReplace, Disk: 0}, {Kind: api.ActReplace, Disk: 1}}, false, 12},
		{"lost and replaced, mended", []api.Act{lose[0], lose[1], {Kind: api.ActReplace, Disk: 1}, {Kind: api.ActStep, N: 40}}, true, 12},
		{"turned", flips, false, 12},
		{"turned, mended", append(slices.Clone(flips), api.Act{Kind: api.ActStep, N: 40}), true, 12},
		{"deleted", []api.Act{op(api.Op{Kind: api.OpDelete, Digest: digest.Of(text)})}, true, 0},
		{"deleted, crashed", []api.Act{{Kind: api.ActCrash, N: 1000, Op: api.Op{Kind: api.OpDelete, Digest: digest.Of(text)}}}, true, 0},
		{"lost, crashed", append(slices.Clone(lose), api.Act{Kind: api.ActCrash, N: 3, Op: api.Op{Kind: api.OpDelete, Digest: "x"}}), false, 8},
	}
	for _, row := range rows {
		l := append(slices.Clone(begin), row.l...)
		r, e := Run(7, s, 8, l)
		if e != api.OK || r.Good != row.good || r.Used != row.used || len(r.Replies) != len(l) || len(r.States) != len(l) {
			t.Errorf("%s: %d, %v, %d", row.name, e, r.Good, r.Used)
		}
		if row.name == "acts that are none" && (!same(r.States[len(l)-1], r.States[2]) || r.Replies[len(l)-1] != (api.Reply{})) {
			t.Errorf("%s: something was done", row.name)
		}
	}
}

// TestBalanced: a step evens, too.
func TestBalanced(t *testing.T) {
	s := api.Shape{K: 1, M: 1, Size: 100}
	l := []api.Act{{Kind: api.ActLose, Disk: 2}}
	texts := []string{}
	for i := range 4 {
		x := strings.Repeat(string([]byte{byte('a' + i)}), 90)
		texts = append(texts, x)
		l = append(l, upload(i, x)...)
	}
	l = append(l, api.Act{Kind: api.ActReplace, Disk: 2}, api.Act{Kind: api.ActStep, N: 50}, api.Act{Kind: api.ActLose, Disk: 1})
	r, e := Run(3, s, 8, l)
	// Four stripes on three even disks: two or three pieces on each, so not all of disk 1's.
	if e != api.OK || r.Used < 5 || r.Used > 6 {
		t.Errorf("%d: %d used", e, r.Used)
	}
	for _, x := range texts {
		if !slices.Contains(r.States[len(l)-1].Things, api.Thing{Digest: digest.Of(x), Text: x}) {
			t.Errorf("%.1s is gone", x)
		}
	}
}

// TestOpenFails: its error is Run's, beside the replies and the states of the acts so far.
func TestOpenFails(t *testing.T) {
	s := api.Shape{K: 2, M: 1, Size: 20}
	l := append(upload(0, "text"), api.Act{Kind: api.ActLose, Disk: 0}, api.Act{Kind: api.ActLose, Disk: 1}, api.Act{Kind: api.ActCrash, N: 0, Op: api.Op{Kind: api.OpStart}}, op(api.Op{Kind: api.OpStart}))
	r, e := Run(4, s, 4, l)
	if e != api.ErrBad || r.Good || r.Used != 0 || len(r.Replies) < 5 || len(r.States) != 5 {
		t.Fatalf("%d: %v, %d, %d replies, %d states", e, r.Good, r.Used, len(r.Replies), len(r.States))
	}
	if !slices.Equal(r.Replies[:5], []api.Reply{{}, {N: 4}, {N: 4}, {}, {}}) || r.States[2].Things[0].Text != "text" || r.States[4].Things[0].Text != "" {
		t.Errorf("%v", r.Replies)
	}
}

// TestTheorems plays scripts on disks that are spared, beside the model.
func TestTheorems(t *testing.T) {
	for seed := range 120 {
		r := rand.New(rand.NewSource(int64(seed)))
		s := api.Shape{K: 1 + r.Intn(4), M: 1 + r.Intn(2), Size: 20 + r.Intn(60)}
		disks := s.K + s.M + 1 + r.Intn(3)
		f := min(s.M, (disks-1)/2)
		l := []api.Act{}
		empty, _ := manifest.Bytes(api.Manifest{})
		for len(l) < 90 {
			text := strings.Repeat(string([]byte{byte('a' + r.Intn(6))}), r.Intn(150))
			id := r.Intn(3)
			o := []api.Op{
				{Kind: api.OpStart}, {Kind: api.OpChunk, ID: id, Text: text}, {Kind: api.OpFinish, ID: id, Digest: digest.Of(text)}, {Kind: api.OpGet, Digest: digest.Of(text)}, {Kind: api.OpManifest, Text: empty},
				{Kind: api.OpTag, Name: "a", Digest: digest.Of(empty)}, {Kind: api.OpSweep}, {Kind: api.OpUntag, Name: "a"}, {Kind: api.OpDelete, Digest: digest.Of(text)},
			}[r.Intn(9)]
			switch r.Intn(14) {
			case 0:
				l = append(l, api.Act{Kind: api.ActLose, Disk: r.Intn(f + 1)})
				if l[len(l)-1].Disk == f {
					l = l[:len(l)-1]
				}
			case 1, 2:
				l = append(l, api.Act{Kind: api.ActReplace, Disk: r.Intn(max(f, 1))})
				if f == 0 {
					l = l[:len(l)-1]
				}
			case 3:
				if f > 0 {
					l = append(l, api.Act{Kind: api.ActFlip, Disk: r.Intn(f), N: r.Intn(1 << 40)})
				}
			case 4:
				l = append(l, api.Act{Kind: api.ActStep, N: r.Intn(40)})
			case 5:
				l = append(l, api.Act{Kind: api.ActCrash, N: r.Intn(40), Op: o, Picks: []int{r.Intn(2), 1, 0, r.Intn(2)}[:r.Intn(5)]})
			case 6, 7:
				l = append(l, op(api.Op{Kind: api.OpStart}), op(api.Op{Kind: api.OpChunk, ID: id, Text: text}), op(api.Op{Kind: api.OpFinish, ID: id, Digest: digest.Of(text)}))
			default:
				l = append(l, op(o))
			}
		}
		for d := range f {
			l = append(l, api.Act{Kind: api.ActReplace, Disk: d})
		}
		l = append(l, api.Act{Kind: api.ActStep, N: 300})
		hold(t, seed, disks, s, l)
	}
}

// hold plays a script, and holds it against the model.
func hold(t *testing.T, seed int, disks int, s api.Shape, l []api.Act) {
	t.Helper()
	r, e := Run(disks, s, 12, l)
	if e != api.OK || len(r.Replies) != len(l) || len(r.States) != len(l) {
		t.Fatalf("seed %d: %d, %d replies, %d states", seed, e, len(r.Replies), len(r.States))
	}
	state := api.State{}
	for i, act := range l {
		got, reply := r.States[i], r.Replies[i]
		if act.Kind != api.ActOp && act.Kind != api.ActCrash {
			if !same(got, state) || reply != (api.Reply{}) {
				t.Fatalf("seed %d, act %d: kind %d changed what is kept", seed, i, act.Kind)
			}
			continue
		}
		next, want, _ := model.Do(state, act.Op)
		full := len(next.Things) > len(state.Things) && (reply == api.Reply{Err: int(api.ErrFull)} || reply == api.Reply{Err: int(api.ErrFew)})
		if full {
			next, want = state, reply
		}
		if act.Kind == api.ActOp {
			if reply != want || !same(got, next) {
				t.Fatalf("seed %d, act %d: %v, not %v", seed, i, reply, want)
			}
			state = next
			continue
		}
		ahead, _ := model.Opened(state)
		behind, _ := model.Opened(next)
		if !same(got, behind) && (reply == want || !same(got, ahead)) {
			t.Fatalf("seed %d, act %d: crashed, told %v: %v", seed, i, reply, got)
		}
		state = got
	}
	if !r.Good {
		t.Fatalf("seed %d: not all are good", seed)
	}
}

// BenchmarkSteps is the longest script there may be of steps on many stripes.
func BenchmarkSteps(b *testing.B) {
	s := api.Shape{K: 1, M: 1, Size: 10}
	l := []api.Act{}
	for i := range 7 {
		l = append(l, upload(i, strings.Repeat(string([]byte{byte('a' + i)}), 150))...)
	}
	l = append(l, api.Act{Kind: api.ActStep, N: 2000})
	for b.Loop() {
		Run(12, s, 20, l)
	}
}
