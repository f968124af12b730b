package tape

import (
	"pupil/apart"
	"pupil/api"
)

// marked marks what a node hangs on, itself too. A node takes only nodes ahead of it, so that one way back is enough; it ends where all that is marked has been gone over.
func marked(nodes []api.Node, node int) []bool {
	marks := make([]bool, len(nodes))
	marks[node] = true
	open := 1
back:
	for i := node; i >= 0; i-- {
		switch {
		case open == 0:
			break back
		case !marks[i]:
			continue back
		}
		open--
		for _, taken := range nodes[i].In {
			if !marks[taken] {
				marks[taken] = true
				open++
			}
		}
	}
	return marks
}

// places tells where marks stand.
func places(marks []bool) []int {
	var list []int
	for i, mark := range marks {
		if mark {
			list = append(list, i)
		}
	}
	return list
}

// kept tells some nodes, with the numbers of those that they take turned to their new ones. What they take is among them.
func kept(nodes []api.Node, old []int) []api.Node {
	turned := make([]int, len(nodes))
	list := make([]api.Node, 0, len(old))
	for number, was := range old {
		turned[was] = number
		n := apart.Node(nodes[was])
		for i, taken := range n.In {
			n.In[i] = turned[taken]
		}
		list = append(list, n)
	}
	return list
}
