"""Arrows turned: which of them can be, and chains of them from net to net."""

from arrowfind.errors import Locked, NoArrow, Unlike
from arrowfind.nets import elders_of, net_made, refuse_strangers
from arrowfind.sameness import say_same


def turnable_in(net):
    return [(tail, head) for tail, head in net[1] if can_be_turned(net, tail, head)]


def net_turned(net, tail, head):
    names, arrows = net
    refuse_strangers(names, [tail, head])
    if (tail, head) not in arrows:
        raise NoArrow(f"no arrow goes from {tail!r} to {head!r}")
    if not can_be_turned(net, tail, head):
        raise Locked(f"the arrow from {tail!r} to {head!r} can't be turned")
    others = [arrow for arrow in arrows if arrow != (tail, head)]
    return net_made(names, others + [(head, tail)])


# Of the arrows that the second net hasn't, one can be turned at every step: of those that go
# to the name that is first in turn, the one whose tail is last in turn. So none is turned twice.
def chain_to(first, second):
    if not say_same(first, second):
        raise Unlike("the nets don't say the same")
    chain = []
    net = first
    while net != second:
        arrow = [each for each in turnable_in(net) if each not in second[1]][0]
        chain.append(arrow)
        net = net_turned(net, arrow[0], arrow[1])
    return chain


def can_be_turned(net, tail, head):
    return set(elders_of(net, head)) == set(elders_of(net, tail) + (tail,))
