"""Roads of a net: rows of tied names, and whether they are open beside held names."""

from arrowfind.nets import are_tied, names_below, refuse_repeats, refuse_strangers, refuse_wrong_asks


def all_roads(net, one, other):
    refuse_wrong_asks(net[0], [one, other])
    return roads_begun(neighbours_in(net), [one], other)


def meetings_of(net, road):
    refuse_strangers(net[0], road)
    meetings = []
    for before, name, behind in zip(road, road[1:], road[2:]):
        if (before, name) in net[1] and (behind, name) in net[1]:
            meetings.append(name)
    return meetings


def is_open(net, road, held):
    refuse_strangers(net[0], road)
    refuse_strangers(net[0], held)
    refuse_repeats([road[0], road[-1]] + list(held))
    meetings = meetings_of(net, road)
    passed = [name for name in road[1:-1] if name not in meetings]
    if any([name in held for name in passed]):
        return False
    return all([has_held_below(net, name, held) for name in meetings])


def neighbours_in(net):
    neighbours = {}
    for name in net[0]:
        neighbours[name] = [near for near in net[0] if are_tied(net, name, near)]
    return neighbours


# Neighbours are tried in order and no road begins another one, so the roads come out sorted.
def roads_begun(neighbours, begun, other):
    if begun[-1] == other:
        return [begun]
    roads = []
    for name in neighbours[begun[-1]]:
        if name not in begun:
            roads.extend(roads_begun(neighbours, begun + [name], other))
    return roads


def has_held_below(net, name, held):
    return any([below in held for below in names_below(net, name)])
