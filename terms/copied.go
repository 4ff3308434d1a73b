package terms

import (
	"strings"

	"fulcrum/api"
)

// copied is an S-expression in new memory, with the kids that tokens have, too.
func copied(n api.Node) api.Node {
	out := api.Node{Token: n.Token}
	out.Token.Text = strings.Clone(n.Token.Text)
	if len(n.Kids) > 0 {
		out.Kids = make([]api.Node, len(n.Kids))
	}
	for i, kid := range n.Kids {
		out.Kids[i] = copied(kid)
	}
	return out
}
