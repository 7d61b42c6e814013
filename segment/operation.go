package segment

import (
	"slices"

	"midrange/api"
)

// Applied returns the store after all operations, and their number. Beside the error of an operation the number is its index.
func Applied(s api.Store, l []api.SegOp) (api.Store, int, api.Errno) {
	if _, e := CheckStore(s); e != api.OK {
		return api.Store{}, 0, e
	}
	if len(l) > api.MaxItems {
		return api.Store{}, 0, api.ErrLarge
	}
	out := api.Store{Segments: slices.Clone(s.Segments), Next: s.Next}
	for i, op := range l {
		after, e := applied(out, op)
		if e != api.OK {
			return api.Store{}, i, e
		}
		out = after
	}
	return out, len(l), api.OK
}

func applied(s api.Store, op api.SegOp) (api.Store, api.Errno) {
	if op.Kind < 0 || op.Kind >= api.SegKinds {
		return api.Store{}, api.ErrKind
	}
	if op != usedOf(op) {
		return api.Store{}, api.ErrForm
	}
	switch op.Kind {
	case api.SegCreate:
		after, _, e := Created(s, op.Pages)
		return after, e
	case api.SegExtend:
		return Extended(s, op.Segment, op.Pages)
	case api.SegTruncate:
		return Truncated(s, op.Segment, op.Pages)
	case api.SegDestroy:
		return Destroyed(s, op.Segment)
	}
	return Written(s, api.Address{Segment: op.Segment, Offset: op.Offset}, op.Bytes)
}

// usedOf returns an operation with what its kind uses alone.
func usedOf(op api.SegOp) api.SegOp {
	switch op.Kind {
	case api.SegCreate:
		return api.SegOp{Kind: op.Kind, Pages: op.Pages}
	case api.SegExtend, api.SegTruncate:
		return api.SegOp{Kind: op.Kind, Segment: op.Segment, Pages: op.Pages}
	case api.SegDestroy:
		return api.SegOp{Kind: op.Kind, Segment: op.Segment}
	}
	return api.SegOp{Kind: op.Kind, Segment: op.Segment, Offset: op.Offset, Bytes: op.Bytes}
}

// Undo returns the operations that take an operation on a store back.
func Undo(s api.Store, op api.SegOp) ([]api.SegOp, api.Errno) {
	if _, _, e := Applied(s, []api.SegOp{op}); e != api.OK {
		return nil, e
	}
	if op.Kind == api.SegCreate || op.Kind == api.SegDestroy {
		return nil, api.ErrRefused
	}
	i, _ := indexOf(s, op.Segment) // it is there: the operation can be applied to it
	return backTo(s.Segments[i], op), api.OK
}

// backTo returns the operations that lead back to a segment from an operation that it still exists after.
func backTo(g api.Segment, op api.SegOp) []api.SegOp {
	switch op.Kind {
	case api.SegExtend:
		return []api.SegOp{{Kind: api.SegTruncate, Segment: g.Number, Pages: pagesOf(g)}}
	case api.SegTruncate:
		return pagesBack(g, op.Pages)
	}
	return bytesBack(g, op.Offset, op.Bytes)
}

// pagesBack returns the operations that put the pages behind the first ones back.
func pagesBack(g api.Segment, kept int) []api.SegOp {
	pages := pagesOf(g) - kept
	if pages == 0 {
		return nil
	}
	extend := api.SegOp{Kind: api.SegExtend, Segment: g.Number, Pages: pages}
	return append([]api.SegOp{extend}, bytesBack(g, kept*api.PageSize, zeroPages(pages))...)
}

// bytesBack returns the operation that puts the bytes of a segment back where others are now; none if they are the same.
func bytesBack(g api.Segment, offset int, now string) []api.SegOp {
	old := g.Bytes[offset : offset+len(now)]
	if old == now {
		return nil
	}
	return []api.SegOp{{Kind: api.SegWrite, Segment: g.Number, Offset: offset, Bytes: old}}
}
