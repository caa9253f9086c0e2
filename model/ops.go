package model

import (
	"slices"

	"silo/api"
	"silo/digest"
	"silo/manifest"
	"silo/names"
	"silo/reach"
)

// begin is OpStart.
func begin(x *api.State) api.Reply {
	if len(x.Sessions) >= api.MaxOpen || x.Next == api.MaxGen {
		return failed(api.ErrLimit)
	}
	id := x.Next
	x.Sessions = append(x.Sessions, api.Session{ID: id})
	x.Next++
	return api.Reply{N: id}
}

// abort is OpAbort.
func abort(x *api.State, o api.Op) api.Reply {
	i, ok := sessionAt(*x, o.ID)
	if !ok {
		return failed(api.ErrNone)
	}
	x.Sessions = slices.Delete(x.Sessions, i, i+1)
	return api.Reply{}
}

// chunk is OpChunk.
func chunk(x *api.State, o api.Op) api.Reply {
	i, ok := sessionAt(*x, o.ID)
	if !ok {
		return failed(api.ErrNone)
	}
	n := len(x.Sessions[i].Text) + len(o.Text)
	if n > api.MaxBlob {
		return failed(api.ErrLimit)
	}
	x.Sessions[i].Text += o.Text
	return api.Reply{N: n}
}

// add lays a thing into a state, if there is none of its digest.
func add(x *api.State, t api.Thing) api.Errno {
	i, ok := thingAt(*x, t.Digest)
	if ok {
		return api.OK
	}
	if len(x.Things) >= api.MaxThings {
		return api.ErrLimit
	}
	x.Things = slices.Insert(x.Things, i, t)
	return api.OK
}

// finish is OpFinish.
func finish(x *api.State, o api.Op) api.Reply {
	i, ok := sessionAt(*x, o.ID)
	if !ok {
		return failed(api.ErrNone)
	}
	text := x.Sessions[i].Text
	if digest.Of(text) != o.Digest {
		return failed(api.ErrBad)
	}
	if e := add(x, api.Thing{Digest: o.Digest, Text: text}); e != api.OK {
		return failed(e)
	}
	x.Sessions = slices.Delete(x.Sessions, i, i+1)
	return api.Reply{N: len(text)}
}

// tell is OpGet, OpStat and OpRange.
func tell(x *api.State, o api.Op) api.Reply {
	i, ok := thingAt(*x, o.Digest)
	if !ok {
		return failed(api.ErrNone)
	}
	text := x.Things[i].Text
	switch o.Kind {
	case api.OpStat:
		return api.Reply{N: len(text)}
	case api.OpGet:
		return api.Reply{Text: text}
	}
	if o.N < 0 || o.N > len(text) || o.M < 0 {
		return failed(api.ErrForm)
	}
	return api.Reply{Text: text[o.N : o.N+min(o.M, len(text)-o.N)]}
}

// remove is OpDelete.
func remove(x *api.State, o api.Op) api.Reply {
	i, ok := thingAt(*x, o.Digest)
	if !ok {
		return failed(api.ErrNone)
	}
	users, _ := reach.Users(x.Things, o.Digest)
	tagged := slices.ContainsFunc(x.Tags, func(t api.Tag) bool { return t.Digest == o.Digest })
	if len(users) > 0 || tagged {
		return failed(api.ErrUsed)
	}
	x.Things = slices.Delete(x.Things, i, i+1)
	return api.Reply{}
}

// join is OpManifest.
func join(x *api.State, o api.Op) api.Reply {
	m, e := manifest.Take(o.Text)
	if e != api.OK {
		return failed(api.ErrBad)
	}
	if !whole(*x, m) {
		return failed(api.ErrNone)
	}
	d := digest.Of(o.Text)
	if e := add(x, api.Thing{Digest: d, Text: o.Text, Manifest: true}); e != api.OK {
		return failed(e)
	}
	return api.Reply{Text: d}
}

// tag is OpTag.
func tag(x *api.State, o api.Op) api.Reply {
	if names.Check(o.Name) != api.OK {
		return failed(api.ErrBad)
	}
	if !is(*x, o.Digest, true) {
		return failed(api.ErrNone)
	}
	i, ok := tagAt(*x, o.Name)
	switch {
	case ok:
		x.Tags[i].Digest = o.Digest
	case len(x.Tags) >= api.MaxTags:
		return failed(api.ErrLimit)
	default:
		x.Tags = slices.Insert(x.Tags, i, api.Tag{Name: o.Name, Digest: o.Digest})
	}
	return api.Reply{}
}

// untag is OpFind and OpUntag.
func untag(x *api.State, o api.Op) api.Reply {
	i, ok := tagAt(*x, o.Name)
	if !ok {
		return failed(api.ErrNone)
	}
	if o.Kind == api.OpFind {
		return api.Reply{Text: x.Tags[i].Digest}
	}
	x.Tags = slices.Delete(x.Tags, i, i+1)
	return api.Reply{}
}

// sweep is OpSweep.
func sweep(x *api.State) api.Reply {
	roots := []string{}
	for _, t := range x.Tags {
		roots = append(roots, t.Digest)
	}
	kept, _ := reach.From(x.Things, roots)
	before := len(x.Things)
	x.Things = slices.DeleteFunc(x.Things, func(t api.Thing) bool {
		_, ok := slices.BinarySearch(kept, t.Digest)
		return !ok
	})
	return api.Reply{N: before - len(x.Things)}
}
