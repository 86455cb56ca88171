package space

import (
	"slices"

	"warren/api"
	"warren/bitset"
	"warren/extent"
	"warren/head"
	"warren/load"
	"warren/plan"
	"warren/scrub"
	"warren/tree"
)

// Commit lets another tree last; pages that are held are left alone.
func (s *Space) Commit(t tree.Tree, held bitset.Set) error {
	if s.down() {
		return api.ErrDown
	}
	on, writes, err := s.laid(t, held)
	if err != nil {
		return err
	}
	next := head.Head{
		Seq:     s.last.Seq + 1,
		Tenant:  s.last.Tenant,
		Gen:     s.last.Gen,
		Root:    plan.Root(on),
		Entries: tree.Len(on),
	}
	b, err := head.Encode(next)
	if err != nil {
		// All else of it may be: there is no commit behind the last one.
		return api.ErrRange
	}
	slot := head.Slot(next.Seq)
	// The head comes when all that it stands for is safe, and onto noughts, so that no part of another one is left beside a part of it.
	if err := s.area.lay(append(writes, noughts(slot))); err != nil {
		return err
	}
	if err := s.area.lay([]plan.Write{{Page: slot, Bytes: b}}); err != nil {
		return err
	}
	s.last, s.tree = next, on
	return s.Release(held)
}

// laid is a tree that lies on pages of the space as soon as all is written that is to be written.
func (s *Space) laid(t tree.Tree, held bitset.Set) (tree.Tree, []plan.Write, error) {
	free := bitset.Less(bitset.Below(s.Pages()), bitset.Either(s.Used(), held))
	on, writes, err := plan.Lay(t, free)
	if err != nil {
		return tree.Tree{}, nil, err
	}
	if found, ok := s.found(on, writes); ok {
		return found, writes, nil
	}
	// It says that it lies where it does not: on pages of another space, or on some that were let go since.
	// What is made of its entries says nothing of the kind, and has no error, as they were in a tree.
	anew, _ := tree.Of(tree.All(t))
	return plan.Lay(anew, free)
}

// found is the tree that will be found where one should lie, once that is written; false: none, or one with other entries.
func (s *Space) found(on tree.Tree, writes []plan.Write) (tree.Tree, bool) {
	pages := s.area.read()
	for _, w := range writes {
		pages[w.Page] = w.Bytes
	}
	found, err := load.Load(pages, plan.Root(on), tree.Len(on))
	return found, err == nil && slices.Equal(tree.All(found), tree.All(on))
}

// Release lets pages that are not held any more be noughts.
func (s *Space) Release(held bitset.Set) error {
	if s.down() {
		return api.ErrDown
	}
	return s.area.blank(scrub.Dirty(s.area.read(), bitset.Either(s.Used(), held)))
}

// Grow is a space with more stretches.
func (s *Space) Grow(ext []extent.Stretch) error {
	if s.down() {
		return api.ErrDown
	}
	if !begins(ext, s.area.ext) || !may(ext, s.area.device.Pages()) {
		return api.ErrArg
	}
	old := bitset.Below(s.Pages())
	s.area.ext = slices.Clone(ext)
	return s.area.blank(scrub.Dirty(s.area.read(), old))
}

// begins tells whether stretches begin with others.
func begins(ext, with []extent.Stretch) bool {
	return len(ext) >= len(with) && slices.Equal(ext[:len(with)], with)
}
