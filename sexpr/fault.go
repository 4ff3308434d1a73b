package sexpr

import "fulcrum/api"

// fault is what is wrong, and where. What meets it deep inside panics with it, and the exported call recovers it.
type fault struct {
	err   api.Errno
	place int
}

// caught is the fault that was recovered, or one without an error where nothing was. (Nothing else is panicked with.)
func caught(recovered any) fault {
	if recovered == nil {
		return fault{}
	}
	return recovered.(fault)
}
